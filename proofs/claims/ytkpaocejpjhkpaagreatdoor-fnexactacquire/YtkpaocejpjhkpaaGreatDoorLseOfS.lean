/-
  Contracts of the model's l05Of and LeaseOf. Conditions: lengths.
-/
import Derived.Test.YtkpaocejpjhkpaaGreatDoorLseSt
namespace Go.Proofs.YtkpaocejpjhkpaaGreatDoor
open Go.ChangeShapes Go.WideShapes Go.ChangeAt Go.RowKit
set_option linter.unusedVariables false
set_option linter.unusedSimpArgs false

set_option maxRecDepth 100000 in
set_option maxHeartbeats 1000000 in
theorem l05Of_any (A : Option Addr) (c : Nat) (next : Int) (xs : List GObj) (B : Nat) (w : World) (h : ObjsAt w B A xs) (hB : B ≤ w.heap.size) (hS : StoreP xs next) :
    Calls Tryz.prog 37 #[.agg #[.slice A xs.length c, .int .i64 next]] w fun e w' => ∃ a ver cd, e = .returned (.tuple #[.agg #[.int .i64 a.tk, .int .i64 a.ow, .int .i64 a.un], .int .i64 ver, .int .i64 cd]) ∧ LseAt xs a ver cd ∧ Below w.heap.size w w' := by
  have H := Lib.hid h; clear h
  have HS := Lib.hid hS
  have hl := hS.2.2.1
  clear hS
  go_enter Tryz.func37, Tryz.ntmps37
  go_wp2_with fail
  obtain ⟨W, hW⟩ : ∃ W, W = (w.alloc (.cells #[.slice A xs.length c, .int .i64 next] 28)).alloc (.cells #[.int .i64 0, .int .i64 0, .int .i64 0] 62) := ⟨_, rfl⟩
  have z0 : ZeroAt3 W (w.heap.size + 1) := by
    rw [hW]
    have := ZeroAt3.new (w.alloc (.cells #[.slice A xs.length c, .int .i64 next] 28)) 62
    simpa using this
  have b0 : Below w.heap.size w W := by rw [hW]; exact bal (bal (Below.refl _ _) _) _
  rw [← hW]
  clear hW
  have Z0 := Lib.hid z0; clear z0
  have s0 := Z0.out.2.2
  generalize hx0 : w.heap.size = x0 at *
  have Hx0 := Lib.hid hx0; clear hx0
  refine (specGet_any A c next xs leaseKey B W (Sl.below H.out b0 hB) (by omega) (by omega)).mono ?_
  rintro e w1 ⟨rfl, hb1⟩
  have b1 : Below x0 w w1 := b0.trans (hb1.mono (by omega))
  have Z1 := Lib.hid (Z0.out.below hb1 s0)
  clear Z0 hb1 b0 s0
  have s1 := Z1.out.2.2
  cases hlk : look xs leaseKey with
  | none =>
    have HR := Lib.hid (show LseAt xs zLse 0 0 from Or.inl ⟨hlk, rfl, rfl, rfl⟩)
    clear hlk
    obtain ⟨⟨z0, z1, z2⟩, y0', y1', y2'⟩ := Z1.out.cells
    simp only [orZero, zObj]
    go_wp2
    refine bodyPost_ret (v := .tuple #[.agg #[.int .i64 0, .int .i64 0, .int .i64 0], .int .i64 0, .int .i64 0]) (by simp [results, Tryz.results37, go_sem, *]) rfl ⟨zLse, 0, 0, rfl, HR.out, ?_⟩
    rw [Hx0.out]
    exact setLse_below b1 (by omega) zLse
  | some o =>
    have hok := look_ok HS.out hlk
    have HL := Lib.hid hlk; clear hlk
    have hds : o.data.size ≤ 600 := hok.2.2.2
    have d0 : (o.ver == 0) = false := by have := hok.2.1; rw [beq_eq_false_iff_ne]; omega
    clear hok
    simp only [orZero]
    go_wp2_with fail
    refine (l05Read_any o.data w1 (by omega)).mono ?_
    rintro e w2 ⟨a, b, rfl, hC, hb2⟩
    have b2 : Below x0 w w2 := b1.trans (hb2.mono (by omega))
    have Z2 := Lib.hid (Z1.out.below hb2 s1)
    have s2 := Z2.out.2.2
    clear Z1 hb2 b1 s1
    obtain ⟨⟨z0, z1, z2⟩, y0', y1', y2'⟩ := Z2.out.cells
    rcases hC with ⟨rfl, hC⟩ | ⟨rfl, rfl, hC⟩
    · have HR := Lib.hid (show LseAt xs a o.ver 0 from Or.inr (Or.inl ⟨o, HL.out, hC, rfl, rfl⟩))
      clear hC
      go_wp2
      refine bodyPost_ret (v := .tuple #[.agg #[.int .i64 a.tk, .int .i64 a.ow, .int .i64 a.un], .int .i64 o.ver, .int .i64 0]) (by simp [results, Tryz.results37, go_sem, *]) rfl ⟨a, o.ver, 0, rfl, HR.out, ?_⟩
      rw [Hx0.out]
      exact (setLse_below b2 (show x0 ≤ x0 + 1 by omega) a).alloc (by rw [setLse_size]; omega) _
    · have HR := Lib.hid (show LseAt xs zLse 0 17 from Or.inr (Or.inr ⟨o, HL.out, hC, rfl, rfl, rfl⟩))
      clear hC
      go_wp2
      refine bodyPost_ret (v := .tuple #[.agg #[.int .i64 0, .int .i64 0, .int .i64 0], .int .i64 0, .int .i64 17]) (by simp [results, Tryz.results37, go_sem, *]) rfl ⟨zLse, 0, 17, rfl, HR.out, ?_⟩
      rw [Hx0.out]
      exact (setLse_below b2 (show x0 ≤ x0 + 1 by omega) zLse).alloc (by rw [setLse_size]; omega) _

end Go.Proofs.YtkpaocejpjhkpaaGreatDoor
