/-
  Contracts of the laws' copying helpers: to (a copy of a store in new memory).
-/
import Derived.Test.YtkpaocejpjhkpaaGreatDoorConv
namespace Go.Proofs.YtkpaocejpjhkpaaGreatDoor
open Go.ChangeShapes Go.WideShapes Go.ChangeAt Go.RowKit
set_option linter.unusedVariables false

theorem info40 : (Tryz.prog.info? 69).map (fun i => (i.zero, i.size, i.bytes)) = some (some (.agg #[.string ⟨#[]⟩, .int .i64 0, .string ⟨#[]⟩]), 3, 40) := by kernel_rfl

theorem toObject_any (o : GObj) (w : World) : Calls Tryz.prog 42 #[.agg #[.string o.key, .int .i64 o.ver, .string o.data]] w fun e w' => e = .returned (.agg #[.string o.key, .int .i64 o.ver, .string o.data]) ∧ Below w.heap.size w w' := by
  go_enter Tryz.func42, Tryz.ntmps42
  go_wp2
  refine bodyPost_ret (v := .agg #[.string o.key, .int .i64 o.ver, .string o.data]) (by simp [results, Tryz.results42, go_sem]) rfl ⟨rfl, ?_⟩
  exact bal (bal (bal (Below.refl _ _) _) _) _

/-- an object of zeros -/
def zObj : GObj := ⟨⟨#[]⟩, 0, ⟨#[]⟩⟩

/-- a new block of so many of them -/
def zeroObjs (n : Nat) : Obj := .cells (madeCells #[.string ⟨#[]⟩, .int .i64 0, .string ⟨#[]⟩] (n * 3)) 69

theorem make_objs (n : Nat) (hn : n ≤ 1048576) (W : World) : (Instr.makeSlice 26 (.int .i64 (n : Int)) (.int .i64 (n : Int))).run Tryz.prog W = .ok (.slice (some ⟨W.heap.size, 0, none⟩) n n) (W.alloc (zeroObjs n)) :=
  run_make_n (P := Tryz.prog) 26 69 _ 3 40 info40 Tryz.underlying26 n n (Nat.le_refl _) (by omega) (by omega) W

theorem zeroObjs_sl (n : Nat) (w : World) : ObjsAt (w.alloc (zeroObjs n)) (w.heap.size + 1) (some ⟨w.heap.size, 0, none⟩) (List.replicate n zObj) :=
  made_sl GObj.vals zObj 3 n 69 w _ rfl rfl

theorem zeroObjs_free (n : Nat) (w : World) : Free (w.alloc (zeroObjs n)) (some ⟨w.heap.size, 0, none⟩) := free_alloc _ _ _ _

/-- a slice of objects is answered, in new memory of its own -/
def NewObjs (xs : List GObj) (w : World) (e : Ending) (w' : World) : Prop :=
  ∃ (A : Option Addr) (c : Nat), e = .returned (.slice A xs.length c) ∧ ObjsAt w' w'.heap.size A xs ∧ Free w' A ∧ (∀ b, blk A = some b → w.heap.size ≤ b ∧ b < w'.heap.size) ∧ xs.length ≤ c ∧ Below w.heap.size w w'

theorem ObjsAt.store {w w1 : World} {B g k : Nat} {ys : List GObj} (h : ObjsAt w B (some ⟨g, 0, none⟩) ys) (hk : k < ys.length) (ho : ∀ i, w1.cell? ⟨g, i, none⟩ = w.cell? ⟨g, i, none⟩) (o : GObj) :
    ObjsAt (((w1.setCell ⟨g, k * 3, none⟩ (.string o.key)).setCell ⟨g, k * 3 + 1, none⟩ (.int .i64 o.ver)).setCell ⟨g, k * 3 + 2, none⟩ (.string o.data)) B (some ⟨g, 0, none⟩) (ys.set k o) := by
  obtain ⟨b, off, e, hgB, q0, q1, q2⟩ := ObjsAt.obj h hk
  injection e with e
  injection e with e1 e2
  subst e1 e2
  rw [← ho] at q0 q1 q2
  rw [Nat.zero_add] at q0 q1 q2
  refine Sl.set h vals_length hk o ?_ ?_
  · intro i v hv
    rw [Nat.zero_add]
    match i, hv with
    | 0, hv =>
      simp [GObj.vals] at hv; subst hv
      rw [cset_ne _ _ _ _ _ (by omega), cset_ne _ _ _ _ _ (by omega)]; exact cset_eq _ _ _ _ q0
    | 1, hv =>
      simp [GObj.vals] at hv; subst hv
      rw [cset_ne _ _ _ _ _ (by omega)]; exact cset_eq _ _ _ _ ((cset_ne _ _ _ _ _ (by omega)).trans q1)
    | 2, hv =>
      simp [GObj.vals] at hv; subst hv
      exact cset_eq _ _ _ _ ((cset_ne _ _ _ _ _ (by omega)).trans ((cset_ne _ _ _ _ _ (by omega)).trans q2))
    | i + 3, hv => simp [GObj.vals] at hv
  · intro i hi
    rw [cset_ne _ _ _ _ _ (by omega), cset_ne _ _ _ _ _ (by omega), cset_ne _ _ _ _ _ (by omega)]
    exact ho i

set_option maxRecDepth 100000 in
theorem toObjectS_any (A : Option Addr) (c : Nat) (xs : List GObj) (B : Nat) (w : World) (h : ObjsAt w B A xs) (hB : B ≤ w.heap.size) (hl : xs.length ≤ 1048576) :
    Calls Tryz.prog 21 #[.slice A xs.length c] w (NewObjs xs w) := by
  have H := Lib.hid h; clear h
  have hmk := make_objs xs.length hl
  go_enter Tryz.func21, Tryz.ntmps21
  go_wp2_with fail
  have hsl := zeroObjs_sl xs.length w
  have hfr := zeroObjs_free xs.length w
  have hbw : Below w.heap.size w (w.alloc (zeroObjs xs.length)) := bal (Below.refl _ _) _
  have hsz : w.heap.size < (w.alloc (zeroObjs xs.length)).heap.size := by simp
  generalize w.alloc (zeroObjs xs.length) = w0 at hsl hfr hbw hsz ⊢
  clear hmk
  have Hsl := Lib.hid hsl; clear hsl
  have Hfr := Lib.hid hfr; clear hfr
  go_loopw [4] (fun i wr => ∃ j : Nat, j ≤ xs.length ∧ i = .int .i64 j ∧ Hid (ObjsAt wr (w.heap.size + 1) (some ⟨w.heap.size, 0, none⟩) (xs.take j ++ (List.replicate xs.length zObj).drop j)) ∧ Hid (Free wr (some ⟨w.heap.size, 0, none⟩)) ∧ w.heap.size < wr.heap.size ∧ Below w.heap.size w wr) (fun i _ => xs.length - (intOf i).toNat)
  case atStart => exact ⟨0, by omega, rfl, Lib.hid (by simpa using Hsl.out), Hfr, hsz, hbw⟩
  case round =>
    clear Hsl Hfr hbw hsz
    obtain ⟨j, hj, rfl, Hr, Hf, hs, hb⟩ := hrel
    by_cases hlt : j < xs.length
    · obtain ⟨b, off, rfl, hbB, p0, p1, p2⟩ := ObjsAt.obj (Sl.below H.out hb hB) hlt
      have hjl : j < (xs.take j ++ (List.replicate xs.length zObj).drop j).length := by simp; omega
      obtain ⟨g, o, e, hgB, q0, q1, q2⟩ := ObjsAt.obj Hr.out hjl
      injection e with e
      injection e with e1 e2
      subst e1 e2
      obtain ⟨v0, q0⟩ : ∃ v, wr.cell? ⟨w.heap.size, 0 + j * 3, none⟩ = some v := ⟨_, q0⟩
      obtain ⟨v1, q1⟩ : ∃ v, wr.cell? ⟨w.heap.size, 0 + j * 3 + 1, none⟩ = some v := ⟨_, q1⟩
      obtain ⟨v2, q2⟩ : ∃ v, wr.cell? ⟨w.heap.size, 0 + j * 3 + 2, none⟩ = some v := ⟨_, q2⟩
      have fz : ∀ i, wr.frozen? ⟨w.heap.size, i, none⟩ = false := Hf.out _ rfl
      rw [Nat.zero_add] at q0 q1 q2
      have Q0 := Lib.hid q0; clear q0
      have Q1 := Lib.hid q1; clear q1
      have Q2 := Lib.hid q2; clear q2
      have Fz := Lib.hid fz; clear fz
      go_wp2_with fail
      refine (toObject_any xs[j] wr).mono ?_
      rintro e w1 ⟨rfl, hb1⟩
      have c0 : w1.cell? ⟨w.heap.size, j * 3, none⟩ = some v0 := (hb1.cell hs).trans Q0.out
      have c1 : w1.cell? ⟨w.heap.size, j * 3 + 1, none⟩ = some v1 := (hb1.cell hs).trans Q1.out
      have c2 : w1.cell? ⟨w.heap.size, j * 3 + 2, none⟩ = some v2 := (hb1.cell hs).trans Q2.out
      have f0 : w1.frozen? ⟨w.heap.size, j * 3, none⟩ = false := (hb1.frozen hs).trans (Fz.out _)
      have f1 : w1.frozen? ⟨w.heap.size, j * 3 + 1, none⟩ = false := (hb1.frozen hs).trans (Fz.out _)
      have f2 : w1.frozen? ⟨w.heap.size, j * 3 + 2, none⟩ = false := (hb1.frozen hs).trans (Fz.out _)
      have hn := ObjsAt.store (w1 := w1) Hr.out hjl (fun i => hb1.cell hs) xs[j]
      rw [take_set xs _ j hlt (by simpa using hlt)] at hn
      have Hn := Lib.hid hn; clear hn
      have hfn : Free (((w1.setCell ⟨w.heap.size, j * 3, none⟩ (.string xs[j].key)).setCell ⟨w.heap.size, j * 3 + 1, none⟩ (.int .i64 xs[j].ver)).setCell ⟨w.heap.size, j * 3 + 2, none⟩ (.string xs[j].data)) (some ⟨w.heap.size, 0, none⟩) := fun b e i => by
        simp [blk] at e; subst e
        rw [frozen_setCell, frozen_setCell, frozen_setCell]; exact (hb1.frozen hs).trans (Fz.out i)
      have Hfn := Lib.hid hfn; clear hfn
      have hsn : w.heap.size < w1.heap.size := by have := hb1.size; omega
      have hbn : Below w.heap.size w (((w1.setCell ⟨w.heap.size, j * 3, none⟩ (.string xs[j].key)).setCell ⟨w.heap.size, j * 3 + 1, none⟩ (.int .i64 xs[j].ver)).setCell ⟨w.heap.size, j * 3 + 2, none⟩ (.string xs[j].data)) :=
        bset (bset (bset (bnext hb hb1) (Nat.le_refl _) _) (Nat.le_refl _) _) (Nat.le_refl _) _
      have Hbn := Lib.hid hbn; clear hbn
      go_wp2
      go_roundw
      case rel => exact ⟨j + 1, by omega, by go_num, Hn, Hfn, by simpa [World.setCell] using hsn, Hbn.out⟩
      case measure => simp [intOf]; omega
    · obtain rfl : j = xs.length := by omega
      have hn : ObjsAt wr (w.heap.size + 1) (some ⟨w.heap.size, 0, none⟩) xs := by simpa using Hr.out
      have Hn := Lib.hid hn; clear hn
      go_wp2
      go_ret
      exact ⟨_, _, rfl, Sl.more Hn.out hs, Hf.out, fun b e => by simp [blk] at e; subst e; exact ⟨Nat.le_refl _, hs⟩, Nat.le_refl _, hb⟩

/-- a store is answered, in new memory of its own -/
def NewStoreV (xs : List GObj) (next : Int) (w : World) (e : Ending) (w' : World) : Prop :=
  ∃ (A : Option Addr) (c : Nat), e = .returned (.agg #[.slice A xs.length c, .int .i64 next]) ∧ ObjsAt w' w'.heap.size A xs ∧ Free w' A ∧ (∀ b, blk A = some b → w.heap.size ≤ b ∧ b < w'.heap.size) ∧ xs.length ≤ c ∧ Below w.heap.size w w'

theorem toStore_any (A : Option Addr) (c : Nat) (next : Int) (xs : List GObj) (B : Nat) (w : World) (h : ObjsAt w B A xs) (hB : B ≤ w.heap.size) (hl : xs.length ≤ 1048576) :
    Calls Tryz.prog 8 #[.agg #[.slice A xs.length c, .int .i64 next]] w (NewStoreV xs next w) := by
  have H := Lib.hid h; clear h
  go_enter Tryz.func8, Tryz.ntmps8
  go_wp2_with fail
  refine (toObjectS_any A c xs B _ (Sl.below H.out (bal (bal (bal (Below.refl _ _) _) _) _) hB) (by simp; omega) hl).mono ?_
  rintro e w1 ⟨A1, c1, rfl, ho, hf, hbl, hc, hb1⟩
  have hsz : w.heap.size + 3 ≤ w1.heap.size := by have := hb1.size; simp at this; omega
  have b0 : w1.cell? ⟨w.heap.size, 1, none⟩ = some (.int .i64 next) := by rw [hb1.cell (by simp <;> omega)]; simp [go_sem]
  have b1 : w1.cell? ⟨w.heap.size + 1, 0, none⟩ = some (.slice none 0 0) := by rw [hb1.cell (by simp <;> omega)]; simp [go_sem]
  have b2 : w1.cell? ⟨w.heap.size + 1, 1, none⟩ = some (.int .i64 0) := by rw [hb1.cell (by simp <;> omega)]; simp [go_sem]
  have b3 : w1.cell? ⟨w.heap.size + 1 + 1, 0, none⟩ = some (.slice none 0 0) := by rw [hb1.cell (by simp)]; simp [go_sem]
  have b4 : w1.cell? ⟨w.heap.size + 1 + 1, 1, none⟩ = some (.int .i64 0) := by rw [hb1.cell (by simp)]; simp [go_sem]
  have f1 : w1.frozen? ⟨w.heap.size + 1, 0, none⟩ = false := by rw [hb1.frozen (by simp <;> omega)]; simp [go_sem]
  have f2 : w1.frozen? ⟨w.heap.size + 1, 1, none⟩ = false := by rw [hb1.frozen (by simp <;> omega)]; simp [go_sem]
  have f3 : w1.frozen? ⟨w.heap.size + 1 + 1, 0, none⟩ = false := by rw [hb1.frozen (by simp)]; simp [go_sem]
  have f4 : w1.frozen? ⟨w.heap.size + 1 + 1, 1, none⟩ = false := by rw [hb1.frozen (by simp)]; simp [go_sem]
  have hb2 : Below w.heap.size w w1 := bnext (bal (bal (bal (Below.refl _ _) _) _) _) hb1
  have hbl2 : ∀ b, blk A1 = some b → w.heap.size + 3 ≤ b ∧ b < w1.heap.size := fun b e => ⟨by have := (hbl b e).1; simp at this; omega, (hbl b e).2⟩
  have Hbl := Lib.hid hbl2
  have Ho := Lib.hid ho
  have Hf := Lib.hid hf
  clear hbl hbl2 ho hf hb1
  go_wp2
  refine bodyPost_ret (v := .agg #[.slice A1 xs.length c1, .int .i64 next]) (by simp [results, Tryz.results8, go_sem, *]) rfl ⟨A1, c1, rfl, ?_, ?_, ?_, hc, ?_⟩
  · rw [size_setCell, size_setCell, size_setCell, size_setCell]
    refine Sl.far (Sl.far (Sl.far (Sl.far Ho.out ?_ _) ?_ _) ?_ _) ?_ _
    all_goals (intro b e; have := (Hbl.out b e).1; dsimp only; omega)
  · exact (((Hf.out.setCell _ _).setCell _ _).setCell _ _).setCell _ _
  · intro b e
    rw [size_setCell, size_setCell, size_setCell, size_setCell]
    exact ⟨by have := (Hbl.out b e).1; omega, (Hbl.out b e).2⟩
  · exact bset (bset (bset (bset hb2 (by show _ ≤ w.heap.size + 1 + 1; omega) _) (by show _ ≤ w.heap.size + 1 + 1; omega) _) (by show _ ≤ w.heap.size + 1; omega) _) (by show _ ≤ w.heap.size + 1; omega) _

end Go.Proofs.YtkpaocejpjhkpaaGreatDoor
