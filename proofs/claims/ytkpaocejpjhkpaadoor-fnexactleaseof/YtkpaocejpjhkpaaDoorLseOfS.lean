/-
  Contracts of the model's l05Of and LeaseOf. Conditions: lengths.
-/
import Derived.Test.YtkpaocejpjhkpaaDoorLseSt
namespace Go.Proofs.YtkpaocejpjhkpaaDoor
open Go.ChangeShapes Go.WideShapes Go.ChangeAt Go.RowKit
set_option linter.unusedVariables false
set_option linter.unusedSimpArgs false

set_option maxRecDepth 100000 in
set_option maxHeartbeats 1000000 in
theorem l05Of_any (A : Option Addr) (c : Nat) (next : Int) (xs : List GObj) (B : Nat) (w : World) (h : ObjsAt w B A xs) (hB : B ≤ w.heap.size) (hS : StoreP xs next) :
    Calls Tryd.prog 29 #[.agg #[.slice A xs.length c, .int .i64 next]] w fun e w' => ∃ a ver cd, e = .returned (.tuple #[.agg #[.int .i64 a.tk, .int .i64 a.ow, .int .i64 a.un], .int .i64 ver, .int .i64 cd]) ∧ LseAt xs a ver cd ∧ Below w.heap.size w w' := by
  have H := Lib.hid h; clear h
  have HS := Lib.hid hS
  have hl := hS.2.2.1
  clear hS
  go_enter Tryd.func29, Tryd.ntmps29
  go_wp2_with fail
  obtain ⟨W, hW⟩ : ∃ W, W = (w.alloc (.cells #[.slice A xs.length c, .int .i64 next] 40)).alloc (.cells #[.int .i64 0, .int .i64 0, .int .i64 0] 26) := ⟨_, rfl⟩
  have z0 : ZeroAt3 W (w.heap.size + 1) := by
    rw [hW]
    have := ZeroAt3.new (w.alloc (.cells #[.slice A xs.length c, .int .i64 next] 40)) 26
    simpa using this
  have b0 : Below w.heap.size w W := by rw [hW]; exact bal (bal (Below.refl _ _) _) _
  rw [← hW]
  clear hW
  have Z0 := Lib.hid z0; clear z0
  have s0 := Z0.out.2.2
  generalize hx0 : w.heap.size = x0 at *
  have Hx0 := Lib.hid hx0; clear hx0
  refine (specGet_any A c next xs leaseKey B W (Sl.below H.out b0 hB) (by omega) (by omega)).mono ?_
  rintro e w1 ⟨rfl, hb1⟩
  have b1 : Below x0 w w1 := b0.trans (hb1.mono (by omega))
  have Z1 := Lib.hid (Z0.out.below hb1 s0)
  clear Z0 hb1 b0 s0
  have s1 := Z1.out.2.2
  cases hlk : look xs leaseKey with
  | none =>
    have HR := Lib.hid (show LseAt xs zLse 0 0 from Or.inl ⟨hlk, rfl, rfl, rfl⟩)
    clear hlk
    obtain ⟨⟨z0, z1, z2⟩, y0', y1', y2'⟩ := Z1.out.cells
    simp only [orZero, zObj]
    go_wp2
    refine bodyPost_ret (v := .tuple #[.agg #[.int .i64 0, .int .i64 0, .int .i64 0], .int .i64 0, .int .i64 0]) (by simp [results, Tryd.results29, go_sem, *]) rfl ⟨zLse, 0, 0, rfl, HR.out, ?_⟩
    rw [Hx0.out]
    exact setLse_below b1 (by omega) zLse
  | some o =>
    have hok := look_ok HS.out hlk
    have HL := Lib.hid hlk; clear hlk
    have hds : o.data.size ≤ 600 := hok.2.2.2
    have d0 : (o.ver == 0) = false := by have := hok.2.1; rw [beq_eq_false_iff_ne]; omega
    clear hok
    simp only [orZero]
    go_wp2_with fail
    refine (l05Read_any o.data w1 (by omega)).mono ?_
    rintro e w2 ⟨a, b, rfl, hC, hb2⟩
    have b2 : Below x0 w w2 := b1.trans (hb2.mono (by omega))
    have Z2 := Lib.hid (Z1.out.below hb2 s1)
    have s2 := Z2.out.2.2
    clear Z1 hb2 b1 s1
    obtain ⟨⟨z0, z1, z2⟩, y0', y1', y2'⟩ := Z2.out.cells
    rcases hC with ⟨rfl, hC⟩ | ⟨rfl, rfl, hC⟩
    · have HR := Lib.hid (show LseAt xs a o.ver 0 from Or.inr (Or.inl ⟨o, HL.out, hC, rfl, rfl⟩))
      clear hC
      go_wp2
      refine bodyPost_ret (v := .tuple #[.agg #[.int .i64 a.tk, .int .i64 a.ow, .int .i64 a.un], .int .i64 o.ver, .int .i64 0]) (by simp [results, Tryd.results29, go_sem, *]) rfl ⟨a, o.ver, 0, rfl, HR.out, ?_⟩
      rw [Hx0.out]
      exact (setLse_below b2 (show x0 ≤ x0 + 1 by omega) a).alloc (by rw [setLse_size]; omega) _
    · have HR := Lib.hid (show LseAt xs zLse 0 17 from Or.inr (Or.inr ⟨o, HL.out, hC, rfl, rfl, rfl⟩))
      clear hC
      go_wp2
      refine bodyPost_ret (v := .tuple #[.agg #[.int .i64 0, .int .i64 0, .int .i64 0], .int .i64 0, .int .i64 17]) (by simp [results, Tryd.results29, go_sem, *]) rfl ⟨zLse, 0, 17, rfl, HR.out, ?_⟩
      rw [Hx0.out]
      exact (setLse_below b2 (show x0 ≤ x0 + 1 by omega) zLse).alloc (by rw [setLse_size]; omega) _

set_option maxRecDepth 100000 in
set_option maxHeartbeats 1000000 in
theorem specLeaseOf_any (A : Option Addr) (c : Nat) (next : Int) (xs : List GObj) (B : Nat) (w : World) (h : ObjsAt w B A xs) (hB : B ≤ w.heap.size) (hf : ∀ o ∈ xs, o.fit) (hl : xs.length ≤ 1048576) :
    Calls Tryd.prog 14 #[.agg #[.slice A xs.length c, .int .i64 next]] w fun e w' => ∃ a cd, e = .returned (.tuple #[.agg #[.int .i64 a.tk, .int .i64 a.ow, .int .i64 a.un], .int .i64 cd]) ∧ LseOfR xs next a cd ∧ Below w.heap.size w w' := by
  have H := Lib.hid h; clear h
  have Hf := Lib.hid hf; clear hf
  go_enter Tryd.func14, Tryd.ntmps14
  go_wp2_with fail
  obtain ⟨W, hW⟩ : ∃ W, W = (w.alloc (.cells #[.slice A xs.length c, .int .i64 next] 40)).alloc (.cells #[.int .i64 0, .int .i64 0, .int .i64 0] 26) := ⟨_, rfl⟩
  have z0 : ZeroAt3 W (w.heap.size + 1) := by
    rw [hW]
    have := ZeroAt3.new (w.alloc (.cells #[.slice A xs.length c, .int .i64 next] 40)) 26
    simpa using this
  have t0 : Two W w.heap.size (.slice A xs.length c) (.int .i64 next) := by rw [hW]; exact (Two.new w _ _ _).alloc (by simp) _
  have b0 : Below w.heap.size w W := by rw [hW]; exact bal (bal (Below.refl _ _) _) _
  rw [← hW]
  clear hW
  have Z0 := Lib.hid z0; clear z0
  have T0 := Lib.hid t0; clear t0
  have s0 := Z0.out.2.2
  generalize hx0 : w.heap.size = x0 at *
  have Hx0 := Lib.hid hx0; clear hx0
  refine (specStoreOK_any A c next xs B W (Sl.below H.out b0 hB) (by omega) Hf.out hl).mono ?_
  rintro e w1 ⟨b, hb, rfl, hb1⟩
  have b1 : Below x0 w w1 := b0.trans (hb1.mono (by omega))
  have Z1 := Lib.hid (Z0.out.below hb1 s0)
  have T1 := Lib.hid (T0.out.below hb1 (by omega))
  clear Z0 T0 hb1 b0 s0
  have s1 := Z1.out.2.2
  cases b
  · have HR := Lib.hid (show LseOfR xs next zLse 1 from Or.inl ⟨fun h => Bool.noConfusion (hb.2 h), rfl, rfl⟩)
    clear hb
    obtain ⟨⟨z0, z1, z2⟩, y0', y1', y2'⟩ := Z1.out.cells
    go_wp2
    refine bodyPost_ret (v := .tuple #[.agg #[.int .i64 0, .int .i64 0, .int .i64 0], .int .i64 1]) (by simp [results, Tryd.results14, go_sem, *]) rfl ⟨zLse, 1, rfl, HR.out, ?_⟩
    rw [Hx0.out]
    exact setLse_below b1 (by omega) zLse
  have hS : StoreP xs next := hb.1 rfl
  have HS := Lib.hid hS; clear hS hb
  obtain ⟨t10, t11⟩ := T1.out
  go_wp2_with fail
  refine (l05Of_any A c next xs B w1 (Sl.below H.out b1 hB) (by omega) HS.out).mono ?_
  rintro e w2 ⟨a, ver, cd, rfl, hA, hb2⟩
  have b2 : Below x0 w w2 := b1.trans (hb2.mono (by omega))
  have Z2 := Lib.hid (Z1.out.below hb2 s1)
  have s2 := Z2.out.2.2
  clear Z1 T1 t10 t11 hb2 b1 s1
  obtain ⟨⟨z0, z1, z2⟩, y0', y1', y2'⟩ := Z2.out.cells
  rcases hA with ⟨hA, rfl, rfl, rfl⟩ | ⟨o, hA, hC, rfl, rfl⟩ | ⟨o, hA, hC, rfl, rfl, rfl⟩
  · have HR := Lib.hid (show LseOfR xs next zLse 5 from Or.inr (Or.inl ⟨HS.out, hA, rfl, rfl⟩))
    clear hA
    go_wp2
    refine bodyPost_ret (v := .tuple #[.agg #[.int .i64 0, .int .i64 0, .int .i64 0], .int .i64 5]) (by simp [results, Tryd.results14, go_sem, *]) rfl ⟨zLse, 5, rfl, HR.out, ?_⟩
    rw [Hx0.out]
    exact (setLse_below b2 (show x0 ≤ x0 + 1 by omega) zLse).alloc (by rw [setLse_size]; omega) _
  · have hok := look_ok HS.out hA
    have d0 : (o.ver == 0) = false := by have := hok.2.1; rw [beq_eq_false_iff_ne]; omega
    have HR := Lib.hid (show LseOfR xs next a 0 from Or.inr (Or.inr (Or.inl ⟨HS.out, o, hA, hC, rfl⟩)))
    clear hA hC hok
    go_wp2
    refine bodyPost_ret (v := .tuple #[.agg #[.int .i64 a.tk, .int .i64 a.ow, .int .i64 a.un], .int .i64 0]) (by simp [results, Tryd.results14, go_sem, *]) rfl ⟨a, 0, rfl, HR.out, ?_⟩
    rw [Hx0.out]
    exact (setLse_below b2 (show x0 ≤ x0 + 1 by omega) a).alloc (by rw [setLse_size]; omega) _
  · have HR := Lib.hid (show LseOfR xs next zLse 17 from Or.inr (Or.inr (Or.inr ⟨HS.out, o, hA, hC, rfl, rfl⟩)))
    clear hA hC
    go_wp2
    refine bodyPost_ret (v := .tuple #[.agg #[.int .i64 0, .int .i64 0, .int .i64 0], .int .i64 17]) (by simp [results, Tryd.results14, go_sem, zLse, *]) rfl ⟨zLse, 17, rfl, HR.out, ?_⟩
    rw [Hx0.out]
    exact (setLse_below b2 (show x0 ≤ x0 + 1 by omega) zLse).alloc (by rw [setLse_size]; omega) _

end Go.Proofs.YtkpaocejpjhkpaaDoor
