/-
  Words for slices of buckets in memory, and contracts of the laws' own helpers on them (to, eq, sz).
-/
import Derived.Test.YtpackpocnonpiaaGreatDoorAggLaw
import Derived.Test.YtpackpocnonpiaaGreatDoorPuts
namespace Go.Proofs.YtpackpocnonpiaaGreatDoor
open Go.ChangeShapes Go.WideShapes Go.ChangeAt Go.RowKit Go.Deep Go.Joins
set_option linter.unusedVariables false

/-- a bucket as data -/
structure GBkt where
  beg : Int
  agg : GAgg
deriving DecidableEq

def GBkt.vals (s : GBkt) : List Value := [.int .i64 s.beg, .int .i64 s.agg.cnt, .int .i64 s.agg.sum, .int .i64 s.agg.mn, .int .i64 s.agg.mx, .int .i64 s.agg.fst, .int .i64 s.agg.lst]

def GBkt.fit (s : GBkt) : Prop := I64 s.beg ∧ s.agg.fit

/-- a slice of buckets -/
def BktsAt (w : World) (B : Nat) (A : Option Addr) (xs : List GBkt) : Prop := Sl GBkt.vals 7 w B A xs

theorem BktsAt.bkt {w : World} {B : Nat} {A : Option Addr} {xs : List GBkt} (h : BktsAt w B A xs) {k : Nat} (hk : k < xs.length) :
    ∃ b off, A = some ⟨b, off, none⟩ ∧ b < B ∧ w.cell? ⟨b, off + k * 7, none⟩ = some (.int .i64 xs[k].beg) ∧ w.cell? ⟨b, off + k * 7 + 1, none⟩ = some (.int .i64 xs[k].agg.cnt) ∧ w.cell? ⟨b, off + k * 7 + 2, none⟩ = some (.int .i64 xs[k].agg.sum) ∧ w.cell? ⟨b, off + k * 7 + 3, none⟩ = some (.int .i64 xs[k].agg.mn) ∧ w.cell? ⟨b, off + k * 7 + 4, none⟩ = some (.int .i64 xs[k].agg.mx) ∧ w.cell? ⟨b, off + k * 7 + 5, none⟩ = some (.int .i64 xs[k].agg.fst) ∧ w.cell? ⟨b, off + k * 7 + 6, none⟩ = some (.int .i64 xs[k].agg.lst) := by
  obtain ⟨b, off, e, hb, hc⟩ := Sl.at_ h hk
  exact ⟨b, off, e, hb, hc 0 _ rfl, hc 1 _ rfl, hc 2 _ rfl, hc 3 _ rfl, hc 4 _ rfl, hc 5 _ rfl, hc 6 _ rfl⟩

theorem infoBkt : (Tryz.prog.info? 203).map (fun i => (i.zero, i.size, i.bytes)) = some (some (.agg #[.int .i64 0, .int .i64 0, .int .i64 0, .int .i64 0, .int .i64 0, .int .i64 0, .int .i64 0]), 7, 56) := by kernel_rfl

def zBkt : GBkt := ⟨0, zAgg⟩

def zeroBkts (n : Nat) : Obj := .cells (madeCells #[.int .i64 0, .int .i64 0, .int .i64 0, .int .i64 0, .int .i64 0, .int .i64 0, .int .i64 0] (n * 7)) 203

theorem make_bkts (n : Nat) (hn : n ≤ 1048576) (W : World) : (Instr.makeSlice 144 (.int .i64 (n : Int)) (.int .i64 (n : Int))).run Tryz.prog W = .ok (.slice (some ⟨W.heap.size, 0, none⟩) n n) (W.alloc (zeroBkts n)) :=
  run_make_n (P := Tryz.prog) 144 203 _ 7 56 infoBkt Tryz.underlying144 n n (Nat.le_refl _) (by omega) (by omega) W

theorem zeroBkts_sl (n : Nat) (w : World) : BktsAt (w.alloc (zeroBkts n)) (w.heap.size + 1) (some ⟨w.heap.size, 0, none⟩) (List.replicate n zBkt) :=
  made_sl GBkt.vals zBkt 7 n 203 w _ rfl rfl

/-- a slice of buckets is answered, in new memory of its own -/
def NewBkts (xs : List GBkt) (w : World) (e : Ending) (w' : World) : Prop :=
  ∃ (A : Option Addr) (c : Nat), e = .returned (.slice A xs.length c) ∧ BktsAt w' w'.heap.size A xs ∧ Free w' A ∧ (∀ b, blk A = some b → w.heap.size ≤ b ∧ b < w'.heap.size) ∧ xs.length ≤ c ∧ Below w.heap.size w w'

end Go.Proofs.YtpackpocnonpiaaGreatDoor
