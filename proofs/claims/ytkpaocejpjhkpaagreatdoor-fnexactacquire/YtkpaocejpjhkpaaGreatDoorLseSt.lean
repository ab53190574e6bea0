/-
  The lease of a store: contracts of the model's l05Of and of LeaseOf of both packages. Conditions: those of ReadLease; lengths.
-/
import Derived.Test.YtkpaocejpjhkpaaGreatDoorGet
import Derived.Test.YtkpaocejpjhkpaaGreatDoorLseRdI
namespace Go.Proofs.YtkpaocejpjhkpaaGreatDoor
open Go.ChangeShapes Go.WideShapes Go.ChangeAt Go.RowKit
set_option linter.unusedVariables false
set_option linter.unusedSimpArgs false

/-- the key of the lease -/
def leaseKey : ByteArray := ⟨#[108, 101, 97, 115, 101]⟩

theorem keyP_lease : KeyP leaseKey := by
  refine ⟨by decide, by decide, fun k h => ?_⟩
  have h5 : k < 5 := h
  match k, h5 with
  | 0, _ => rfl
  | 1, _ => rfl
  | 2, _ => rfl
  | 3, _ => rfl
  | 4, _ => rfl

theorem leaseKey_size : leaseKey.size = 5 := rfl

theorem look_ok {xs : List GObj} {next : Int} {k : ByteArray} {o : GObj} (hs : StoreP xs next) (h : look xs k = some o) : ObjOK next o := by
  have hm : o ∈ xs := List.mem_of_find?_eq_some h
  obtain ⟨i, hi, rfl⟩ := List.mem_iff_getElem.1 hm
  exact hs.2.2.2.1 i hi hi

/-- what l05Of answers -/
def LseAt (xs : List GObj) (l : GLse) (ver cd : Int) : Prop :=
  (look xs leaseKey = none ∧ l = zLse ∧ ver = 0 ∧ cd = 0) ∨ (∃ o, look xs leaseKey = some o ∧ LseRead o.data l ∧ ver = o.ver ∧ cd = 0) ∨ (∃ o, look xs leaseKey = some o ∧ NoLse o.data ∧ l = zLse ∧ ver = 0 ∧ cd = 17)

/-- what LeaseOf answers -/
def LseOfR (xs : List GObj) (next : Int) (l : GLse) (cd : Int) : Prop :=
  (¬ StoreP xs next ∧ l = zLse ∧ cd = 1) ∨ (StoreP xs next ∧ look xs leaseKey = none ∧ l = zLse ∧ cd = 5) ∨ (StoreP xs next ∧ ∃ o, look xs leaseKey = some o ∧ LseRead o.data l ∧ cd = 0) ∨ (StoreP xs next ∧ ∃ o, look xs leaseKey = some o ∧ NoLse o.data ∧ l = zLse ∧ cd = 17)

theorem LseOfR.one {xs : List GObj} {next : Int} {l l' : GLse} {c c' : Int} (h : LseOfR xs next l c) (h' : LseOfR xs next l' c') : l = l' ∧ c = c' := by
  rcases h with ⟨h1, rfl, rfl⟩ | ⟨h1, h2, rfl, rfl⟩ | ⟨h1, o, h2, h3, rfl⟩ | ⟨h1, o, h2, h3, rfl, rfl⟩ <;>
    rcases h' with ⟨k1, rfl, rfl⟩ | ⟨k1, k2, rfl, rfl⟩ | ⟨k1, p, k2, k3, rfl⟩ | ⟨k1, p, k2, k3, rfl, rfl⟩ <;>
    first
    | exact ⟨rfl, rfl⟩
    | exact absurd k1 h1
    | exact absurd h1 k1
    | (rw [h2] at k2; cases k2; done)
    | (rw [h2] at k2; injection k2 with k2; subst k2; first | exact ⟨lseRead_one h3 k3, rfl⟩ | exact absurd h3 (k3 _) | exact absurd k3 (h3 _))

theorem fault_lease {xs : List GObj} {next : Int} {code : Int} (h : FaultP xs next leaseKey [] code) : (¬ StoreP xs next ∧ code = 1) ∨ (StoreP xs next ∧ code = 0) := by
  rcases h with ⟨h, _⟩ | ⟨_, h, hc⟩ | ⟨_, _, h, _⟩ | ⟨_, h, _, hc⟩
  · rw [leaseKey_size] at h; simp at h
  · exact Or.inl ⟨h, hc⟩
  · exact absurd keyP_lease h
  · exact Or.inr ⟨h, hc⟩

/-- the lease's box, all zero, kept from world to world -/
theorem ZeroAt3.set {w : World} {n : Nat} (h : ZeroAt3 w n) : n < w.heap.size := h.2.2

set_option maxRecDepth 100000 in
set_option maxHeartbeats 1000000 in
theorem leaseOf_any (A : Option Addr) (c : Nat) (next : Int) (xs : List GObj) (B : Nat) (w : World) (h : ObjsAt w B A xs) (hB : B ≤ w.heap.size) (hf : ∀ o ∈ xs, o.fit) (hl : xs.length ≤ 1048576) (hE : Errs w) (hP : Pow w) (hM : MaxL w) :
    Calls Tryz.prog 46 #[.agg #[.slice A xs.length c, .int .i64 next]] w fun e w' => ∃ a cd, e = .returned (.tuple #[.agg #[.int .i64 a.tk, .int .i64 a.ow, .int .i64 a.un], .int .i64 cd]) ∧ LseOfR xs next a cd ∧ Below w.heap.size w w' := by
  have H := Lib.hid h; clear h
  have Hf := Lib.hid hf; clear hf
  have hEP := fun w' (h : Below w.heap.size w w') => And.intro (hE.below h (Nat.le_refl _)) (And.intro (hP.below h (Nat.le_refl _)) (hM.below h (Nat.le_refl _)))
  have HEP := Lib.hid hEP; clear hEP hE hP hM
  go_enter Tryz.func46, Tryz.ntmps46
  go_wp2_with fail
  obtain ⟨W, hW⟩ : ∃ W, W = (w.alloc (.cells #[.slice A xs.length c, .int .i64 next] 28)).alloc (.cells #[.int .i64 0, .int .i64 0, .int .i64 0] 62) := ⟨_, rfl⟩
  have z0 : ZeroAt3 W (w.heap.size + 1) := by
    rw [hW]
    have := ZeroAt3.new (w.alloc (.cells #[.slice A xs.length c, .int .i64 next] 28)) 62
    simpa using this
  have b0 : Below w.heap.size w W := by rw [hW]; exact bal (bal (Below.refl _ _) _) _
  rw [← hW]
  clear hW
  have Z0 := Lib.hid z0; clear z0
  have s0 := Z0.out.2.2
  generalize hx0 : w.heap.size = x0 at *
  have Hx0 := Lib.hid hx0; clear hx0
  refine (getObject_any A c next xs leaseKey B W (Sl.below H.out b0 hB) (by omega) Hf.out hl (by rw [leaseKey_size]; unfold maxLen; omega)).mono ?_
  rintro e w1 ⟨d, v, code, hr, rfl, hb1⟩
  have b1 : Below x0 w w1 := b0.trans (hb1.mono (by omega))
  have Z1 := Lib.hid (Z0.out.below hb1 s0)
  clear Z0 hb1 b0 s0
  have s1 := Z1.out.2.2
  have hcase : (code ≠ 0 ∧ LseOfR xs next zLse code) ∨ (code = 0 ∧ StoreP xs next ∧ ∃ o, look xs leaseKey = some o ∧ d = o.data) := by
    rcases hr with ⟨h1, h2, _, _⟩ | ⟨h1, h2, _, _, rfl⟩ | ⟨o, h1, h2, h3, _, rfl⟩
    · rcases fault_lease h1 with ⟨h3, rfl⟩ | ⟨_, h3⟩
      · exact Or.inl ⟨by omega, Or.inl ⟨h3, rfl, rfl⟩⟩
      · exact absurd h3 h2
    · exact Or.inl ⟨by omega, Or.inr (Or.inl ⟨h1.zero.1, h2, rfl, rfl⟩)⟩
    · exact Or.inr ⟨rfl, h1.zero.1, o, h2, h3⟩
  clear hr
  rcases hcase with ⟨hne, hR⟩ | ⟨rfl, hS, o, hlo, rfl⟩
  · have HR := Lib.hid hR; clear hR
    have d1 : (code != 0) = true := by simpa using hne
    have d2 : (code == 0) = false := by simpa using hne
    clear hne
    obtain ⟨⟨z0, z1, z2⟩, y0', y1', y2'⟩ := Z1.out.cells
    go_wp2
    refine bodyPost_ret (v := .tuple #[.agg #[.int .i64 0, .int .i64 0, .int .i64 0], .int .i64 code]) (by simp [results, Tryz.results46, go_sem, *]) rfl ⟨zLse, code, rfl, HR.out, ?_⟩
    rw [Hx0.out]
    exact setLse_below b1 (by omega) zLse
  · have hds : o.data.size ≤ 600 := (look_ok hS hlo).2.2.2
    have HS := Lib.hid hS; have HL := Lib.hid hlo; clear hS hlo
    go_wp2_with fail
    refine (readLease_any o.data w1 (by omega) (HEP.out w1 b1).1 (HEP.out w1 b1).2.1 (HEP.out w1 b1).2.2).mono ?_
    rintro e w2 ⟨a, cd, rfl, hC, hb2⟩
    have b2 : Below x0 w w2 := b1.trans (hb2.mono (by omega))
    have Z2 := Lib.hid (Z1.out.below hb2 s1)
    have s2 := Z2.out.2.2
    clear Z1 hb2 b1 s1
    obtain ⟨⟨z0, z1, z2⟩, y0', y1', y2'⟩ := Z2.out.cells
    rcases hC with ⟨hC, _, _⟩ | ⟨_, hC, rfl⟩ | ⟨_, hC, rfl, rfl⟩
    · omega
    · have HR := Lib.hid (show LseOfR xs next a 0 from Or.inr (Or.inr (Or.inl ⟨HS.out, o, HL.out, hC, rfl⟩)))
      clear hC
      go_wp2
      refine bodyPost_ret (v := .tuple #[.agg #[.int .i64 a.tk, .int .i64 a.ow, .int .i64 a.un], .int .i64 0]) (by simp [results, Tryz.results46, go_sem, *]) rfl ⟨a, 0, rfl, HR.out, ?_⟩
      rw [Hx0.out]
      exact (setLse_below b2 (show x0 ≤ x0 + 1 by omega) a).alloc (by rw [setLse_size]; omega) _
    · have HR := Lib.hid (show LseOfR xs next zLse 17 from Or.inr (Or.inr (Or.inr ⟨HS.out, o, HL.out, hC, rfl, rfl⟩)))
      clear hC
      go_wp2
      refine bodyPost_ret (v := .tuple #[.agg #[.int .i64 0, .int .i64 0, .int .i64 0], .int .i64 17]) (by simp [results, Tryz.results46, go_sem, *]) rfl ⟨zLse, 17, rfl, HR.out, ?_⟩
      rw [Hx0.out]
      exact (setLse_below b2 (show x0 ≤ x0 + 1 by omega) zLse).alloc (by rw [setLse_size]; omega) _

end Go.Proofs.YtkpaocejpjhkpaaGreatDoor
