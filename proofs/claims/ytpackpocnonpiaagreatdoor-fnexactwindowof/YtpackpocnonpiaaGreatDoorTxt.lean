/-
  Slices of texts in memory; the length of joined texts; the library's table of powers of ten, held from world to world; contract of strconv.Itoa in these words. Conditions: the table is as the library's text lays it.
-/
import Derived.Test.YtpackpocnonpiaaGreatDoorJoin
import Derived.Test.YtpackpocnonpiaaGreatDoorPuts
import Derived.Test.YtpackpocnonpiaaGreatDoorAggLaw
import Derived.Test.YtpackpocnonpiaaGreatDoorTxtB
import Derived.WalkSmall
import Derived.Lib.SmallJoins
namespace Go.Proofs.YtpackpocnonpiaaGreatDoor
open Go.ChangeShapes Go.WideShapes Go.ChangeAt Go.RowKit
set_option linter.unusedVariables false

def txV (s : ByteArray) : List Value := [.string s]

/-- a slice of texts -/
def TxtAt (w : World) (B : Nat) (A : Option Addr) (xs : List ByteArray) : Prop := Sl txV 1 w B A xs

theorem TxtAt.at_ {w : World} {B : Nat} {A : Option Addr} {xs : List ByteArray} (h : TxtAt w B A xs) {k : Nat} (hk : k < xs.length) :
    ∃ b off, A = some ⟨b, off, none⟩ ∧ b < B ∧ w.cell? ⟨b, off + k, none⟩ = some (.string xs[k]) := by
  obtain ⟨b, off, e, hb, hc⟩ := Sl.at_ h hk
  have := hc 0 (.string xs[k]) rfl
  simp only [Nat.mul_one, Nat.add_zero] at this
  exact ⟨b, off, e, hb, this⟩

theorem TxtAt.cells {w : World} {B b o : Nat} {xs : List ByteArray} (h : TxtAt w B (some ⟨b, o, none⟩) xs) (j : Nat) (x : ByteArray) (hj : xs[j]? = some x) : w.cell? ⟨b, o + j, none⟩ = some (.string x) := by
  obtain ⟨hlt, rfl⟩ := List.getElem?_eq_some_iff.1 hj
  obtain ⟨b', o', e, _, hc⟩ := TxtAt.at_ h hlt
  injection e with e
  injection e with e1 e2
  subst e1 e2
  exact hc

theorem joinT_size (sep : ByteArray) (m : Nat) (xs : List ByteArray) (h : ∀ x ∈ xs, x.size ≤ m) : (joinT xs sep).size ≤ xs.length * (m + sep.size) := by
  have key : ∀ k, k ≤ xs.length → (joinT (xs.take k) sep).size ≤ k * (m + sep.size) := by
    intro k
    induction k with
    | zero => intro _; rw [List.take_zero, joinT_nil]; exact Nat.zero_le _
    | succ k ih =>
      intro hk
      have hm := h xs[k] (List.getElem_mem _)
      by_cases h0 : k = 0
      · subst h0
        rw [joinT_first xs sep (by omega)]
        omega
      · have := ih (by omega)
        rw [joinT_next xs sep k (by omega) (by omega), ByteArray.size_append, ByteArray.size_append, Nat.succ_mul]
        omega
  have := key xs.length (Nat.le_refl _)
  rwa [List.take_length] at this

theorem infoStr : (Tryz.prog.info? 9).map (fun i => (i.zero, i.size, i.bytes)) = some (some (.string ByteArray.empty), 1, 16) := by kernel_rfl

def zeroTxts (n : Nat) : Obj := .cells (madeCells #[.string ByteArray.empty] (n * 1)) 9

theorem make_txts (n : Nat) (hn : n ≤ 1048576) (W : World) : (Instr.makeSlice 149 (.int .i64 (n : Int)) (.int .i64 (n : Int))).run Tryz.prog W = .ok (.slice (some ⟨W.heap.size, 0, none⟩) n n) (W.alloc (zeroTxts n)) :=
  run_make_n (P := Tryz.prog) 149 9 _ 1 16 infoStr Tryz.underlying149 n n (Nat.le_refl _) (by omega) (by omega) W

theorem zeroTxts_sl (n : Nat) (w : World) : TxtAt (w.alloc (zeroTxts n)) (w.heap.size + 1) (some ⟨w.heap.size, 0, none⟩) (List.replicate n ByteArray.empty) :=
  made_sl txV ByteArray.empty 1 n 9 w _ rfl rfl

theorem joinS_any (b o c : Nat) (xs : List ByteArray) (sep : ByteArray) (B : Nat) (w : World) (h : TxtAt w B (some ⟨b, o, none⟩) xs) (hb : b < w.heap.size) (hl : xs.length ≤ 1048576) (hcap : xs.length ≤ c) (hz : (joinT xs sep).size ≤ 140737488355328) :
    Calls Tryz.prog 122 #[.slice (some ⟨b, o, none⟩) xs.length c, .string sep] w fun e w' => e = .returned (.string (joinT xs sep)) ∧ Below w.heap.size w w' :=
  sh_strings_Join b o c xs sep w (TxtAt.cells h) hb (by omega) hcap (by simpa [joinT, ByteArray.size] using hz)

end Go.Proofs.YtpackpocnonpiaaGreatDoor
