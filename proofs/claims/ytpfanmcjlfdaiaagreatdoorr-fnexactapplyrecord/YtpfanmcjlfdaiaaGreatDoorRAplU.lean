/-
  Contract of the model's l06Takes, for records that publish, and for all. Conditions: the state is right; lengths.
-/
import Derived.Test.YtpfanmcjlfdaiaaGreatDoorRTk
import Derived.Test.YtpfanmcjlfdaiaaGreatDoorRAplT
import Derived.Test.YtpfanmcjlfdaiaaGreatDoorRN2
namespace Go.Proofs.YtpfanmcjlfdaiaaGreatDoorR
open Go.ChangeShapes Go.WideShapes Go.ChangeAt Go.RowKit Go.Deep Go.Joins Go.Maps
set_option linter.unusedVariables false
set_option linter.unusedSimpArgs false

set_option maxRecDepth 100000 in
set_option maxHeartbeats 40000000 in
theorem takes3_1 (A : Option Addr) (c : Nat) (A2 : Option Addr) (c2 : Nat) (s : GSt) (tk ti bg fi : Int) (ky : ByteArray) (B : Nat) (w : World) (h : StAt w B A A2 s) (hB : B ≤ w.heap.size) (hl : s.ents.length ≤ 1048576) (hl2 : s.tmbs.length ≤ 1048576) (hsp : StP s) (hrp : RecP ⟨3, tk, ti, bg, fi, ky⟩) (hky : ky.size ≤ 1048576) (htt : ti = 1) :
    Calls Tryz.prog 58 #[.agg #[.int .i64 s.sq, .int .i64 s.fe, .slice A s.ents.length c, .slice A2 s.tmbs.length c2, .int .i64 s.lo.a, .int .i64 s.lo.b, .int .i64 s.lo.c, .int .i64 s.hi.a, .int .i64 s.hi.b, .int .i64 s.hi.c], .agg #[.int .i64 3, .int .i64 tk, .int .i64 ti, .int .i64 bg, .int .i64 fi, .string ky]] w (IsBB (TakeP s ⟨3, tk, ti, bg, fi, ky⟩) w) := by
  have H := Lib.hid h; clear h
  have hti : ti = 1 ∨ ti = 2 := by
    simp [RecP, GRec.ent] at hrp
    have := hrp.2.2.tier
    have h0 := hrp.2.1
    dsimp only at this
    omega
  have hIK : ∃ n m, IsKey ky ti n m := by
    simp [RecP, GRec.ent] at hrp
    exact hrp.2.2.1
  have hbf : 0 ≤ bg ∧ bg ≤ 100000 := by
    simp [RecP, GRec.ent] at hrp
    have := hrp.2.2.rng
    dsimp only at this
    omega
  have HIK := Lib.hid hIK; clear hIK hrp hsp
  have HT : Hid (∀ t n m, IsKey ky t n m → (TakeP s ⟨3, tk, ti, bg, fi, ky⟩ ↔ n = bg ∧ m = tk ∧ tk = s.fe ∧ bg = s.hi.at ti ∧ fi = bg + wid ti.toNat ∧ fi ≤ s.hi.at (ti - 1) ∧ s.lo.at (ti - 1) ≤ bg ∧ memB ky (keysAll s) = false)) := Lib.hid fun t n m hK => by
    have hm : memB ky (keysAll s) = false ↔ ky ∉ keysAll s := by rw [← Bool.not_eq_true, memB_iff]
    rw [hm]
    constructor
    · rintro (⟨h, _⟩ | ⟨h, _⟩ | ⟨_, ⟨t', h⟩, h2⟩ | ⟨h, _⟩ | ⟨h, _⟩)
      · simp at h
      · simp at h
      · obtain ⟨_, e1, e2⟩ := isKey_one hK h
        exact ⟨e1, e2, h2⟩
      · simp at h
      · simp at h
    · rintro ⟨rfl, rfl, h2⟩
      exact Or.inr (Or.inr (Or.inl ⟨rfl, ⟨t, hK⟩, h2⟩))
  have L1 : Hid (∀ W, Calls Tryz.prog 90 #[.int .i64 1] W fun e w' => e = .returned (.int .i64 5) ∧ Below W.heap.size W w') := Lib.hid fun W => l04Width_in 1 (by omega) W
  have L2 : Hid (∀ W, Calls Tryz.prog 90 #[.int .i64 2] W fun e w' => e = .returned (.int .i64 20) ∧ Below W.heap.size W w') := Lib.hid fun W => l04Width_in 2 (by omega) W
  rcases hti with rfl | rfl
  rotate_left
  · omega
  · have HT2 : Hid (∀ t n m, IsKey ky t n m → (TakeP s ⟨3, tk, 1, bg, fi, ky⟩ ↔ n = bg ∧ m = tk ∧ tk = s.fe ∧ bg = s.hi.b ∧ fi = bg + 5 ∧ fi ≤ s.hi.a ∧ s.lo.a ≤ bg ∧ memB ky (keysAll s) = false)) := Lib.hid fun t n m hK => by rw [HT.out t n m hK]; simp [GTri.at, wid]
    clear HT
    go_enter Tryz.func58, Tryz.ntmps58
    go_wp2_with fail
    have BX : Hid (TakBox A c A2 c2 s ⟨3, tk, 1, bg, fi, ky⟩ w.heap.size ((w.alloc (.cells #[.int .i64 s.sq, .int .i64 s.fe, .slice A s.ents.length c, .slice A2 s.tmbs.length c2, .int .i64 s.lo.a, .int .i64 s.lo.b, .int .i64 s.lo.c, .int .i64 s.hi.a, .int .i64 s.hi.b, .int .i64 s.hi.c] 34)).alloc (.cells #[.int .i64 3, .int .i64 tk, .int .i64 1, .int .i64 bg, .int .i64 fi, .string ky] 38))) := Lib.hid (by
      have k1 := (Cells.new w [.int .i64 s.sq, .int .i64 s.fe, .slice A s.ents.length c, .slice A2 s.tmbs.length c2, .int .i64 s.lo.a, .int .i64 s.lo.b, .int .i64 s.lo.c, .int .i64 s.hi.a, .int .i64 s.hi.b, .int .i64 s.hi.c] 34).below (bal (Below.refl _ _) (.cells #[.int .i64 3, .int .i64 tk, .int .i64 1, .int .i64 bg, .int .i64 fi, .string ky] 38)) (by simp)
      have k2 := Cells.new (w.alloc (.cells #[.int .i64 s.sq, .int .i64 s.fe, .slice A s.ents.length c, .slice A2 s.tmbs.length c2, .int .i64 s.lo.a, .int .i64 s.lo.b, .int .i64 s.lo.c, .int .i64 s.hi.a, .int .i64 s.hi.b, .int .i64 s.hi.c] 34)) [.int .i64 3, .int .i64 tk, .int .i64 1, .int .i64 bg, .int .i64 fi, .string ky] 38
      exact ⟨k1, by simpa using k2, by simp⟩)
    have b0 : Below w.heap.size w ((w.alloc (.cells #[.int .i64 s.sq, .int .i64 s.fe, .slice A s.ents.length c, .slice A2 s.tmbs.length c2, .int .i64 s.lo.a, .int .i64 s.lo.b, .int .i64 s.lo.c, .int .i64 s.hi.a, .int .i64 s.hi.b, .int .i64 s.hi.c] 34)).alloc (.cells #[.int .i64 3, .int .i64 tk, .int .i64 1, .int .i64 bg, .int .i64 fi, .string ky] 38)) := bal (bal (Below.refl _ _) _) _
    generalize ((w.alloc (.cells #[.int .i64 s.sq, .int .i64 s.fe, .slice A s.ents.length c, .slice A2 s.tmbs.length c2, .int .i64 s.lo.a, .int .i64 s.lo.b, .int .i64 s.lo.c, .int .i64 s.hi.a, .int .i64 s.hi.b, .int .i64 s.hi.c] 34)).alloc (.cells #[.int .i64 3, .int .i64 tk, .int .i64 1, .int .i64 bg, .int .i64 fi, .string ky] 38)) = W at *
    generalize hx0 : w.heap.size = x0 at *
    have Hx0 := Lib.hid hx0; clear hx0
    have HS : Hid (∀ w', Below x0 w w' → StAt w' x0 A A2 s) := Lib.hid fun w' hb => (H.out.below hb (by have := Hx0.out; omega)).more (by have := Hx0.out; omega)
    clear H
    have hx2 := BX.out.2.2
    refine (toKey_any ky W hky).mono ?_
    rintro e w1 ⟨t, n, m, bk, rfl, hK, hb1⟩
    have b1 : Below x0 w w1 := b0.trans (hb1.mono (by omega))
    have B1 := Lib.hid (BX.out.below hb1)
    clear BX hb1 b0 hx2
    obtain ⟨c0, c1, c2', c3, c4, c5, c6, c7, c8, c9⟩ := B1.out.1.ten
    obtain ⟨r0, r1, r2, r3, r4, r5⟩ := B1.out.six
    rcases hK with ⟨rfl, hK⟩ | ⟨_, _, _, _, hN⟩
    rotate_left
    · obtain ⟨n, m, h⟩ := HIK.out; exact absurd h (hN _ _ _)
    have HTT := Lib.hid (HT2.out t n m hK); clear hK HT2
    have HW := Lib.hid (show IntKind.i64.wrap (bg + 5) = bg + 5 from by rw [IntKind.wrap_i64]; omega)
    by_cases h0 : n = bg
    rotate_left
    · have d0 : (n == bg) = false := by simpa using h0
      have HN := Lib.hid (show ¬ TakeP s ⟨3, tk, 1, bg, fi, ky⟩ from fun h => h0 (HTT.out.1 h).1)
      clear h0
      go_wp2_with fail
      clear c0 c1 c2' c3 c4 c5 c6 c7 c8 c9 r0 r1 r2 r3 r4 r5
      refine wp_region_noPanic ?_
      refine wp_region_held_drew (S := (fun w' => (w'.cell? ⟨x0, 0, none⟩ = some (.int .i64 s.sq) ∧ w'.cell? ⟨x0, 1, none⟩ = some (.int .i64 s.fe) ∧ w'.cell? ⟨x0, 2, none⟩ = some (.slice A s.ents.length c) ∧ w'.cell? ⟨x0, 3, none⟩ = some (.slice A2 s.tmbs.length c2) ∧ w'.cell? ⟨x0, 4, none⟩ = some (.int .i64 s.lo.a) ∧ w'.cell? ⟨x0, 5, none⟩ = some (.int .i64 s.lo.b) ∧ w'.cell? ⟨x0, 6, none⟩ = some (.int .i64 s.lo.c) ∧ w'.cell? ⟨x0, 7, none⟩ = some (.int .i64 s.hi.a) ∧ w'.cell? ⟨x0, 8, none⟩ = some (.int .i64 s.hi.b) ∧ w'.cell? ⟨x0, 9, none⟩ = some (.int .i64 s.hi.c)) ∧ w'.cell? ⟨x0 + 1, 0, none⟩ = some (.int .i64 3) ∧ w'.cell? ⟨x0 + 1, 1, none⟩ = some (.int .i64 tk) ∧ w'.cell? ⟨x0 + 1, 2, none⟩ = some (.int .i64 1) ∧ w'.cell? ⟨x0 + 1, 3, none⟩ = some (.int .i64 bg) ∧ w'.cell? ⟨x0 + 1, 4, none⟩ = some (.int .i64 fi) ∧ w'.cell? ⟨x0 + 1, 5, none⟩ = some (.string ky))) (by kernel_rfl) (⟨B1.out.1.ten, B1.out.six⟩) (fun hHeld => ?_)
      refine kT 0 ?_
      go_frame
      refine kT 1 ?_
      go_frame
      refine kT 2 ?_
      go_frame
      refine kT 3 ?_
      go_frame
      refine kT 4 ?_
      go_frame
      refine kS 5 ?_
      go_frame
      refine kS 6 ?_
      go_frame
      refine kS 7 ?_
      go_frame
      refine kS 8 ?_
      go_frame
      refine kT 9 ?_
      go_frame
      refine kT 10 ?_
      go_frame
      refine kS 11 ?_
      go_frame
      refine kS 12 ?_
      go_frame
      refine kS 13 ?_
      go_frame
      refine kS 14 ?_
      go_frame
      refine kS 15 ?_
      go_frame
      refine kT 16 ?_
      go_frame
      refine kT 17 ?_
      go_frame
      refine kS 18 ?_
      go_frame
      refine kS 19 ?_
      go_frame
      refine kS 20 ?_
      go_frame
      refine kS 21 ?_
      go_frame
      refine kS 22 ?_
      go_frame
      refine kS 23 ?_
      go_frame
      refine kS 24 ?_
      go_frame
      refine kS 25 ?_
      go_frame
      refine kT 26 ?_
      go_frame
      refine kT 27 ?_
      go_frame
      refine kS 28 ?_
      go_frame
      refine kS 29 ?_
      go_frame
      refine kS 30 ?_
      go_frame
      refine kS 31 ?_
      go_frame
      refine kS 32 ?_
      go_frame
      refine kS 33 ?_
      go_frame
      refine wpAnyH_take (i := 34) (oi := { dst := some 86, op := Op.call { callee := Callee.value (Operand.func 90), args := #[Operand.tmp 85], argTypes := #[3] }, type := 3, pos := "l06_manifest.go:149", after := #[{ on := 33, ground := Ground.data }, { on := 27, ground := Ground.chain }, { on := 27, ground := Ground.guard }], guard := some (27, true) }) (v := undef) rfl (by kernel_rfl) (by kernel_rfl) (by kernel_rfl) (fun _ _ _ h => h) (Or.inr ⟨by rfl, rfl⟩) (by assumption) ?_
      try simp only [Act.put, List.setIfInBounds_toArray, List.set_cons_zero, List.set_cons_succ]
      refine kS 35 ?_
      go_frame
      refine kS 36 ?_
      go_frame
      refine kT 37 ?_
      go_frame
      refine kT 38 ?_
      go_frame
      refine kS 39 ?_
      go_frame
      refine kS 40 ?_
      go_frame
      refine kS 41 ?_
      go_frame
      refine kS 42 ?_
      go_frame
      refine kS 43 ?_
      go_frame
      refine kS 44 ?_
      go_frame
      refine kS 45 ?_
      go_frame
      refine kS 46 ?_
      go_frame
      refine kS 47 ?_
      go_frame
      refine kT 48 ?_
      go_frame
      refine kT 49 ?_
      go_frame
      refine kS 50 ?_
      go_frame
      refine kS 51 ?_
      go_frame
      refine kS 52 ?_
      go_frame
      refine kS 53 ?_
      go_frame
      refine kS 54 ?_
      go_frame
      refine kS 55 ?_
      go_frame
      refine kS 56 ?_
      go_frame
      refine kS 57 ?_
      go_frame
      refine kS 58 ?_
      go_frame
      refine kT 59 ?_
      go_frame
      refine kT 60 ?_
      go_frame
      refine kS 61 ?_
      go_frame
      refine kS 62 ?_
      go_frame
      refine kS 63 ?_
      go_frame
      refine wpAnyH_take (i := 64) (oi := { dst := some 116, op := Op.call { callee := Callee.value (Operand.func 89), args := #[Operand.tmp 113, Operand.tmp 115], argTypes := #[34, 9] }, type := 4, pos := "l06_manifest.go:149", after := #[{ on := 61, ground := Ground.data }, { on := 63, ground := Ground.data }, { on := 60, ground := Ground.chain }, { on := 60, ground := Ground.guard }], guard := some (60, true) }) (v := undef) rfl (by kernel_rfl) (by kernel_rfl) (by kernel_rfl) (fun _ _ _ h => h) (Or.inr ⟨by rfl, rfl⟩) (by assumption) ?_
      try simp only [Act.put, List.setIfInBounds_toArray, List.set_cons_zero, List.set_cons_succ]
      refine kS 65 ?_
      go_frame
      refine kT 66 ?_
      go_frame
      refine kT 67 ?_
      go_frame
      refine wpAnyH_done (by kernel_rfl) ?_ _
      refine NoPanic.normal ?_
      clear hHeld
      go_wp2
      go_ret
      exact IsBB.no HN.out (by rw [Hx0.out]; exact b1.drew)
    have d0 : (n == bg) = true := by simpa using h0
    have Hh0 := Lib.hid h0; clear h0
    by_cases h1 : m = tk
    rotate_left
    · have d1 : (m == tk) = false := by simpa using h1
      have HN := Lib.hid (show ¬ TakeP s ⟨3, tk, 1, bg, fi, ky⟩ from fun h => h1 (HTT.out.1 h).2.1)
      clear h1
      go_wp2_with fail
      clear c0 c1 c2' c3 c4 c5 c6 c7 c8 c9 r0 r1 r2 r3 r4 r5
      refine wp_region_noPanic ?_
      refine wp_region_held_drew (S := (fun w' => (w'.cell? ⟨x0, 0, none⟩ = some (.int .i64 s.sq) ∧ w'.cell? ⟨x0, 1, none⟩ = some (.int .i64 s.fe) ∧ w'.cell? ⟨x0, 2, none⟩ = some (.slice A s.ents.length c) ∧ w'.cell? ⟨x0, 3, none⟩ = some (.slice A2 s.tmbs.length c2) ∧ w'.cell? ⟨x0, 4, none⟩ = some (.int .i64 s.lo.a) ∧ w'.cell? ⟨x0, 5, none⟩ = some (.int .i64 s.lo.b) ∧ w'.cell? ⟨x0, 6, none⟩ = some (.int .i64 s.lo.c) ∧ w'.cell? ⟨x0, 7, none⟩ = some (.int .i64 s.hi.a) ∧ w'.cell? ⟨x0, 8, none⟩ = some (.int .i64 s.hi.b) ∧ w'.cell? ⟨x0, 9, none⟩ = some (.int .i64 s.hi.c)) ∧ w'.cell? ⟨x0 + 1, 0, none⟩ = some (.int .i64 3) ∧ w'.cell? ⟨x0 + 1, 1, none⟩ = some (.int .i64 tk) ∧ w'.cell? ⟨x0 + 1, 2, none⟩ = some (.int .i64 1) ∧ w'.cell? ⟨x0 + 1, 3, none⟩ = some (.int .i64 bg) ∧ w'.cell? ⟨x0 + 1, 4, none⟩ = some (.int .i64 fi) ∧ w'.cell? ⟨x0 + 1, 5, none⟩ = some (.string ky))) (by kernel_rfl) (⟨B1.out.1.ten, B1.out.six⟩) (fun hHeld => ?_)
      refine kT 0 ?_
      go_frame
      refine kT 1 ?_
      go_frame
      refine kT 2 ?_
      go_frame
      refine kT 3 ?_
      go_frame
      refine kT 4 ?_
      go_frame
      refine kT 5 ?_
      go_frame
      refine kT 6 ?_
      go_frame
      refine kT 7 ?_
      go_frame
      refine kT 8 ?_
      go_frame
      refine kT 9 ?_
      go_frame
      refine kT 10 ?_
      go_frame
      refine kS 11 ?_
      go_frame
      refine kS 12 ?_
      go_frame
      refine kS 13 ?_
      go_frame
      refine kS 14 ?_
      go_frame
      refine kS 15 ?_
      go_frame
      refine kT 16 ?_
      go_frame
      refine kT 17 ?_
      go_frame
      refine kS 18 ?_
      go_frame
      refine kS 19 ?_
      go_frame
      refine kS 20 ?_
      go_frame
      refine kS 21 ?_
      go_frame
      refine kS 22 ?_
      go_frame
      refine kS 23 ?_
      go_frame
      refine kS 24 ?_
      go_frame
      refine kS 25 ?_
      go_frame
      refine kT 26 ?_
      go_frame
      refine kT 27 ?_
      go_frame
      refine kS 28 ?_
      go_frame
      refine kS 29 ?_
      go_frame
      refine kS 30 ?_
      go_frame
      refine kS 31 ?_
      go_frame
      refine kS 32 ?_
      go_frame
      refine kS 33 ?_
      go_frame
      refine wpAnyH_take (i := 34) (oi := { dst := some 86, op := Op.call { callee := Callee.value (Operand.func 90), args := #[Operand.tmp 85], argTypes := #[3] }, type := 3, pos := "l06_manifest.go:149", after := #[{ on := 33, ground := Ground.data }, { on := 27, ground := Ground.chain }, { on := 27, ground := Ground.guard }], guard := some (27, true) }) (v := undef) rfl (by kernel_rfl) (by kernel_rfl) (by kernel_rfl) (fun _ _ _ h => h) (Or.inr ⟨by rfl, rfl⟩) (by assumption) ?_
      try simp only [Act.put, List.setIfInBounds_toArray, List.set_cons_zero, List.set_cons_succ]
      refine kS 35 ?_
      go_frame
      refine kS 36 ?_
      go_frame
      refine kT 37 ?_
      go_frame
      refine kT 38 ?_
      go_frame
      refine kS 39 ?_
      go_frame
      refine kS 40 ?_
      go_frame
      refine kS 41 ?_
      go_frame
      refine kS 42 ?_
      go_frame
      refine kS 43 ?_
      go_frame
      refine kS 44 ?_
      go_frame
      refine kS 45 ?_
      go_frame
      refine kS 46 ?_
      go_frame
      refine kS 47 ?_
      go_frame
      refine kT 48 ?_
      go_frame
      refine kT 49 ?_
      go_frame
      refine kS 50 ?_
      go_frame
      refine kS 51 ?_
      go_frame
      refine kS 52 ?_
      go_frame
      refine kS 53 ?_
      go_frame
      refine kS 54 ?_
      go_frame
      refine kS 55 ?_
      go_frame
      refine kS 56 ?_
      go_frame
      refine kS 57 ?_
      go_frame
      refine kS 58 ?_
      go_frame
      refine kT 59 ?_
      go_frame
      refine kT 60 ?_
      go_frame
      refine kS 61 ?_
      go_frame
      refine kS 62 ?_
      go_frame
      refine kS 63 ?_
      go_frame
      refine wpAnyH_take (i := 64) (oi := { dst := some 116, op := Op.call { callee := Callee.value (Operand.func 89), args := #[Operand.tmp 113, Operand.tmp 115], argTypes := #[34, 9] }, type := 4, pos := "l06_manifest.go:149", after := #[{ on := 61, ground := Ground.data }, { on := 63, ground := Ground.data }, { on := 60, ground := Ground.chain }, { on := 60, ground := Ground.guard }], guard := some (60, true) }) (v := undef) rfl (by kernel_rfl) (by kernel_rfl) (by kernel_rfl) (fun _ _ _ h => h) (Or.inr ⟨by rfl, rfl⟩) (by assumption) ?_
      try simp only [Act.put, List.setIfInBounds_toArray, List.set_cons_zero, List.set_cons_succ]
      refine kS 65 ?_
      go_frame
      refine kT 66 ?_
      go_frame
      refine kT 67 ?_
      go_frame
      refine wpAnyH_done (by kernel_rfl) ?_ _
      refine NoPanic.normal ?_
      clear hHeld
      go_wp2
      go_ret
      exact IsBB.no HN.out (by rw [Hx0.out]; exact b1.drew)
    have d1 : (m == tk) = true := by simpa using h1
    have Hh1 := Lib.hid h1; clear h1
    by_cases h2 : tk = s.fe
    rotate_left
    · have d2 : (tk == s.fe) = false := by simpa using h2
      have HN := Lib.hid (show ¬ TakeP s ⟨3, tk, 1, bg, fi, ky⟩ from fun h => h2 (HTT.out.1 h).2.2.1)
      clear h2
      go_wp2_with fail
      clear c0 c1 c2' c3 c4 c5 c6 c7 c8 c9 r0 r1 r2 r3 r4 r5
      refine wp_region_noPanic ?_
      refine wp_region_held_drew (S := (fun w' => (w'.cell? ⟨x0, 0, none⟩ = some (.int .i64 s.sq) ∧ w'.cell? ⟨x0, 1, none⟩ = some (.int .i64 s.fe) ∧ w'.cell? ⟨x0, 2, none⟩ = some (.slice A s.ents.length c) ∧ w'.cell? ⟨x0, 3, none⟩ = some (.slice A2 s.tmbs.length c2) ∧ w'.cell? ⟨x0, 4, none⟩ = some (.int .i64 s.lo.a) ∧ w'.cell? ⟨x0, 5, none⟩ = some (.int .i64 s.lo.b) ∧ w'.cell? ⟨x0, 6, none⟩ = some (.int .i64 s.lo.c) ∧ w'.cell? ⟨x0, 7, none⟩ = some (.int .i64 s.hi.a) ∧ w'.cell? ⟨x0, 8, none⟩ = some (.int .i64 s.hi.b) ∧ w'.cell? ⟨x0, 9, none⟩ = some (.int .i64 s.hi.c)) ∧ w'.cell? ⟨x0 + 1, 0, none⟩ = some (.int .i64 3) ∧ w'.cell? ⟨x0 + 1, 1, none⟩ = some (.int .i64 tk) ∧ w'.cell? ⟨x0 + 1, 2, none⟩ = some (.int .i64 1) ∧ w'.cell? ⟨x0 + 1, 3, none⟩ = some (.int .i64 bg) ∧ w'.cell? ⟨x0 + 1, 4, none⟩ = some (.int .i64 fi) ∧ w'.cell? ⟨x0 + 1, 5, none⟩ = some (.string ky))) (by kernel_rfl) (⟨B1.out.1.ten, B1.out.six⟩) (fun hHeld => ?_)
      refine kT 0 ?_
      go_frame
      refine kT 1 ?_
      go_frame
      refine kT 2 ?_
      go_frame
      refine kT 3 ?_
      go_frame
      refine kT 4 ?_
      go_frame
      refine kT 5 ?_
      go_frame
      refine kT 6 ?_
      go_frame
      refine kT 7 ?_
      go_frame
      refine kT 8 ?_
      go_frame
      refine kT 9 ?_
      go_frame
      refine kT 10 ?_
      go_frame
      refine kT 11 ?_
      go_frame
      refine kT 12 ?_
      go_frame
      refine kT 13 ?_
      go_frame
      refine kT 14 ?_
      go_frame
      refine kT 15 ?_
      go_frame
      refine kT 16 ?_
      go_frame
      refine kT 17 ?_
      go_frame
      refine kS 18 ?_
      go_frame
      refine kS 19 ?_
      go_frame
      refine kS 20 ?_
      go_frame
      refine kS 21 ?_
      go_frame
      refine kS 22 ?_
      go_frame
      refine kS 23 ?_
      go_frame
      refine kS 24 ?_
      go_frame
      refine kS 25 ?_
      go_frame
      refine kT 26 ?_
      go_frame
      refine kT 27 ?_
      go_frame
      refine kS 28 ?_
      go_frame
      refine kS 29 ?_
      go_frame
      refine kS 30 ?_
      go_frame
      refine kS 31 ?_
      go_frame
      refine kS 32 ?_
      go_frame
      refine kS 33 ?_
      go_frame
      refine wpAnyH_take (i := 34) (oi := { dst := some 86, op := Op.call { callee := Callee.value (Operand.func 90), args := #[Operand.tmp 85], argTypes := #[3] }, type := 3, pos := "l06_manifest.go:149", after := #[{ on := 33, ground := Ground.data }, { on := 27, ground := Ground.chain }, { on := 27, ground := Ground.guard }], guard := some (27, true) }) (v := undef) rfl (by kernel_rfl) (by kernel_rfl) (by kernel_rfl) (fun _ _ _ h => h) (Or.inr ⟨by rfl, rfl⟩) (by assumption) ?_
      try simp only [Act.put, List.setIfInBounds_toArray, List.set_cons_zero, List.set_cons_succ]
      refine kS 35 ?_
      go_frame
      refine kS 36 ?_
      go_frame
      refine kT 37 ?_
      go_frame
      refine kT 38 ?_
      go_frame
      refine kS 39 ?_
      go_frame
      refine kS 40 ?_
      go_frame
      refine kS 41 ?_
      go_frame
      refine kS 42 ?_
      go_frame
      refine kS 43 ?_
      go_frame
      refine kS 44 ?_
      go_frame
      refine kS 45 ?_
      go_frame
      refine kS 46 ?_
      go_frame
      refine kS 47 ?_
      go_frame
      refine kT 48 ?_
      go_frame
      refine kT 49 ?_
      go_frame
      refine kS 50 ?_
      go_frame
      refine kS 51 ?_
      go_frame
      refine kS 52 ?_
      go_frame
      refine kS 53 ?_
      go_frame
      refine kS 54 ?_
      go_frame
      refine kS 55 ?_
      go_frame
      refine kS 56 ?_
      go_frame
      refine kS 57 ?_
      go_frame
      refine kS 58 ?_
      go_frame
      refine kT 59 ?_
      go_frame
      refine kT 60 ?_
      go_frame
      refine kS 61 ?_
      go_frame
      refine kS 62 ?_
      go_frame
      refine kS 63 ?_
      go_frame
      refine wpAnyH_take (i := 64) (oi := { dst := some 116, op := Op.call { callee := Callee.value (Operand.func 89), args := #[Operand.tmp 113, Operand.tmp 115], argTypes := #[34, 9] }, type := 4, pos := "l06_manifest.go:149", after := #[{ on := 61, ground := Ground.data }, { on := 63, ground := Ground.data }, { on := 60, ground := Ground.chain }, { on := 60, ground := Ground.guard }], guard := some (60, true) }) (v := undef) rfl (by kernel_rfl) (by kernel_rfl) (by kernel_rfl) (fun _ _ _ h => h) (Or.inr ⟨by rfl, rfl⟩) (by assumption) ?_
      try simp only [Act.put, List.setIfInBounds_toArray, List.set_cons_zero, List.set_cons_succ]
      refine kS 65 ?_
      go_frame
      refine kT 66 ?_
      go_frame
      refine kT 67 ?_
      go_frame
      refine wpAnyH_done (by kernel_rfl) ?_ _
      refine NoPanic.normal ?_
      clear hHeld
      go_wp2
      go_ret
      exact IsBB.no HN.out (by rw [Hx0.out]; exact b1.drew)
    have d2 : (tk == s.fe) = true := by simpa using h2
    have Hh2 := Lib.hid h2; clear h2
    by_cases h3 : bg = s.hi.b
    rotate_left
    · have d3 : (bg == s.hi.b) = false := by simpa using h3
      have HN := Lib.hid (show ¬ TakeP s ⟨3, tk, 1, bg, fi, ky⟩ from fun h => h3 (HTT.out.1 h).2.2.2.1)
      clear h3
      go_wp2_with fail
      clear c0 c1 c2' c3 c4 c5 c6 c7 c8 c9 r0 r1 r2 r3 r4 r5
      refine wp_region_noPanic ?_
      refine wp_region_held_drew (S := (fun w' => (w'.cell? ⟨x0, 0, none⟩ = some (.int .i64 s.sq) ∧ w'.cell? ⟨x0, 1, none⟩ = some (.int .i64 s.fe) ∧ w'.cell? ⟨x0, 2, none⟩ = some (.slice A s.ents.length c) ∧ w'.cell? ⟨x0, 3, none⟩ = some (.slice A2 s.tmbs.length c2) ∧ w'.cell? ⟨x0, 4, none⟩ = some (.int .i64 s.lo.a) ∧ w'.cell? ⟨x0, 5, none⟩ = some (.int .i64 s.lo.b) ∧ w'.cell? ⟨x0, 6, none⟩ = some (.int .i64 s.lo.c) ∧ w'.cell? ⟨x0, 7, none⟩ = some (.int .i64 s.hi.a) ∧ w'.cell? ⟨x0, 8, none⟩ = some (.int .i64 s.hi.b) ∧ w'.cell? ⟨x0, 9, none⟩ = some (.int .i64 s.hi.c)) ∧ w'.cell? ⟨x0 + 1, 0, none⟩ = some (.int .i64 3) ∧ w'.cell? ⟨x0 + 1, 1, none⟩ = some (.int .i64 tk) ∧ w'.cell? ⟨x0 + 1, 2, none⟩ = some (.int .i64 1) ∧ w'.cell? ⟨x0 + 1, 3, none⟩ = some (.int .i64 bg) ∧ w'.cell? ⟨x0 + 1, 4, none⟩ = some (.int .i64 fi) ∧ w'.cell? ⟨x0 + 1, 5, none⟩ = some (.string ky))) (by kernel_rfl) (⟨B1.out.1.ten, B1.out.six⟩) (fun hHeld => ?_)
      refine kT 0 ?_
      go_frame
      refine kT 1 ?_
      go_frame
      refine kT 2 ?_
      go_frame
      refine kT 3 ?_
      go_frame
      refine kT 4 ?_
      go_frame
      refine kT 5 ?_
      go_frame
      refine kT 6 ?_
      go_frame
      refine kT 7 ?_
      go_frame
      refine kT 8 ?_
      go_frame
      refine kT 9 ?_
      go_frame
      refine kT 10 ?_
      go_frame
      refine kT 11 ?_
      go_frame
      refine kT 12 ?_
      go_frame
      refine kT 13 ?_
      go_frame
      refine kT 14 ?_
      go_frame
      refine kT 15 ?_
      go_frame
      refine kT 16 ?_
      go_frame
      refine kT 17 ?_
      go_frame
      refine kT 18 ?_
      go_frame
      refine kT 19 ?_
      go_frame
      refine kT 20 ?_
      go_frame
      refine kT 21 ?_
      go_frame
      refine kT 22 ?_
      go_frame
      refine kT 23 ?_
      go_frame
      refine kT 24 ?_
      go_frame
      refine kT 25 ?_
      go_frame
      refine kT 26 ?_
      go_frame
      refine kT 27 ?_
      go_frame
      refine kS 28 ?_
      go_frame
      refine kS 29 ?_
      go_frame
      refine kS 30 ?_
      go_frame
      refine kS 31 ?_
      go_frame
      refine kS 32 ?_
      go_frame
      refine kS 33 ?_
      go_frame
      refine wpAnyH_take (i := 34) (oi := { dst := some 86, op := Op.call { callee := Callee.value (Operand.func 90), args := #[Operand.tmp 85], argTypes := #[3] }, type := 3, pos := "l06_manifest.go:149", after := #[{ on := 33, ground := Ground.data }, { on := 27, ground := Ground.chain }, { on := 27, ground := Ground.guard }], guard := some (27, true) }) (v := undef) rfl (by kernel_rfl) (by kernel_rfl) (by kernel_rfl) (fun _ _ _ h => h) (Or.inr ⟨by rfl, rfl⟩) (by assumption) ?_
      try simp only [Act.put, List.setIfInBounds_toArray, List.set_cons_zero, List.set_cons_succ]
      refine kS 35 ?_
      go_frame
      refine kS 36 ?_
      go_frame
      refine kT 37 ?_
      go_frame
      refine kT 38 ?_
      go_frame
      refine kS 39 ?_
      go_frame
      refine kS 40 ?_
      go_frame
      refine kS 41 ?_
      go_frame
      refine kS 42 ?_
      go_frame
      refine kS 43 ?_
      go_frame
      refine kS 44 ?_
      go_frame
      refine kS 45 ?_
      go_frame
      refine kS 46 ?_
      go_frame
      refine kS 47 ?_
      go_frame
      refine kT 48 ?_
      go_frame
      refine kT 49 ?_
      go_frame
      refine kS 50 ?_
      go_frame
      refine kS 51 ?_
      go_frame
      refine kS 52 ?_
      go_frame
      refine kS 53 ?_
      go_frame
      refine kS 54 ?_
      go_frame
      refine kS 55 ?_
      go_frame
      refine kS 56 ?_
      go_frame
      refine kS 57 ?_
      go_frame
      refine kS 58 ?_
      go_frame
      refine kT 59 ?_
      go_frame
      refine kT 60 ?_
      go_frame
      refine kS 61 ?_
      go_frame
      refine kS 62 ?_
      go_frame
      refine kS 63 ?_
      go_frame
      refine wpAnyH_take (i := 64) (oi := { dst := some 116, op := Op.call { callee := Callee.value (Operand.func 89), args := #[Operand.tmp 113, Operand.tmp 115], argTypes := #[34, 9] }, type := 4, pos := "l06_manifest.go:149", after := #[{ on := 61, ground := Ground.data }, { on := 63, ground := Ground.data }, { on := 60, ground := Ground.chain }, { on := 60, ground := Ground.guard }], guard := some (60, true) }) (v := undef) rfl (by kernel_rfl) (by kernel_rfl) (by kernel_rfl) (fun _ _ _ h => h) (Or.inr ⟨by rfl, rfl⟩) (by assumption) ?_
      try simp only [Act.put, List.setIfInBounds_toArray, List.set_cons_zero, List.set_cons_succ]
      refine kS 65 ?_
      go_frame
      refine kT 66 ?_
      go_frame
      refine kT 67 ?_
      go_frame
      refine wpAnyH_done (by kernel_rfl) ?_ _
      refine NoPanic.normal ?_
      clear hHeld
      go_wp2
      go_ret
      exact IsBB.no HN.out (by rw [Hx0.out]; exact b1.drew)
    have d3 : (bg == s.hi.b) = true := by simpa using h3
    have Hh3 := Lib.hid h3; clear h3
    go_wp2_with fail
    clear c0 c1 c2' c3 c4 c5 c6 c7 c8 c9 r0 r1 r2 r3 r4 r5
    by_cases h5 : fi = bg + 5
    rotate_left
    · have HWd := Lib.hid (show (fi == IntKind.i64.wrap (bg + 5)) = false from by rw [HW.out]; simpa using h5)
      have HN := Lib.hid (show ¬ TakeP s ⟨3, tk, 1, bg, fi, ky⟩ from fun h => h5 (HTT.out.1 h).2.2.2.2.1)
      clear h5
      refine wp_region_noPanic ?_
      refine wp_region_held_drew (S := (fun w' => (w'.cell? ⟨x0, 0, none⟩ = some (.int .i64 s.sq) ∧ w'.cell? ⟨x0, 1, none⟩ = some (.int .i64 s.fe) ∧ w'.cell? ⟨x0, 2, none⟩ = some (.slice A s.ents.length c) ∧ w'.cell? ⟨x0, 3, none⟩ = some (.slice A2 s.tmbs.length c2) ∧ w'.cell? ⟨x0, 4, none⟩ = some (.int .i64 s.lo.a) ∧ w'.cell? ⟨x0, 5, none⟩ = some (.int .i64 s.lo.b) ∧ w'.cell? ⟨x0, 6, none⟩ = some (.int .i64 s.lo.c) ∧ w'.cell? ⟨x0, 7, none⟩ = some (.int .i64 s.hi.a) ∧ w'.cell? ⟨x0, 8, none⟩ = some (.int .i64 s.hi.b) ∧ w'.cell? ⟨x0, 9, none⟩ = some (.int .i64 s.hi.c)) ∧ w'.cell? ⟨x0 + 1, 0, none⟩ = some (.int .i64 3) ∧ w'.cell? ⟨x0 + 1, 1, none⟩ = some (.int .i64 tk) ∧ w'.cell? ⟨x0 + 1, 2, none⟩ = some (.int .i64 1) ∧ w'.cell? ⟨x0 + 1, 3, none⟩ = some (.int .i64 bg) ∧ w'.cell? ⟨x0 + 1, 4, none⟩ = some (.int .i64 fi) ∧ w'.cell? ⟨x0 + 1, 5, none⟩ = some (.string ky))) (by kernel_rfl) (⟨B1.out.1.ten, B1.out.six⟩) (fun hHeld => ?_)
      refine kT 0 ?_
      go_frame
      refine kT 1 ?_
      go_frame
      refine kT 2 ?_
      go_frame
      refine kT 3 ?_
      go_frame
      refine kT 4 ?_
      go_frame
      refine kT 5 ?_
      go_frame
      refine kT 6 ?_
      go_frame
      refine kT 7 ?_
      go_frame
      refine kT 8 ?_
      go_frame
      refine kT 9 ?_
      go_frame
      refine kT 10 ?_
      go_frame
      refine kT 11 ?_
      go_frame
      refine kT 12 ?_
      go_frame
      refine kT 13 ?_
      go_frame
      refine kT 14 ?_
      go_frame
      refine kT 15 ?_
      go_frame
      refine kT 16 ?_
      go_frame
      refine kT 17 ?_
      go_frame
      refine kT 18 ?_
      go_frame
      refine kT 19 ?_
      go_frame
      refine kT 20 ?_
      go_frame
      refine kT 21 ?_
      go_frame
      refine kT 22 ?_
      go_frame
      refine kT 23 ?_
      go_frame
      refine kT 24 ?_
      go_frame
      refine kT 25 ?_
      go_frame
      refine kT 26 ?_
      go_frame
      refine kT 27 ?_
      go_frame
      refine kT 28 ?_
      go_frame
      refine kT 29 ?_
      go_frame
      refine kT 30 ?_
      go_frame
      refine kT 31 ?_
      go_frame
      refine kT 32 ?_
      go_frame
      refine kT 33 ?_
      go_frame
      refine wpAnyH_ready (rs := [34]) (by kernel_rfl) (by simp) ?_
      refine AllReadyH.cons (o := { dst := some 86, op := Op.call { callee := Callee.value (Operand.func 90), args := #[Operand.tmp 85], argTypes := #[3] }, type := 3, pos := "l06_manifest.go:149", after := #[{ on := 33, ground := Ground.data }, { on := 27, ground := Ground.chain }, { on := 27, ground := Ground.guard }], guard := some (27, true) }) rfl (fun K hK => ?_) AllReadyH.nil
      go_simp
      refine (L1.out _).mono ?_
      rintro r w3 ⟨rfl, hb3'⟩
      have hb3 : Below w1.heap.size w1 w3 := (Below.refl _ _).drew.trans hb3'
      clear hb3'
      have B3 := Lib.hid (B1.out.below hb3)
      have b3 : Below x0 w w3 := b1.trans (hb3.mono (by have := B1.out.2.2; omega))
      go_wp2_with fail
      refine hK.out _ _ (⟨B3.out.1.ten, B3.out.six⟩) (fun hHeld => ?_)
      clear hK K
      try simp only [Act.put, List.setIfInBounds_toArray, List.set_cons_zero, List.set_cons_succ]
      refine kT 35 ?_
      go_frame
      refine kT 36 ?_
      go_frame
      rw [HWd.out]
      refine kT 37 ?_
      go_frame
      refine kT 38 ?_
      go_frame
      refine kS 39 ?_
      go_frame
      refine kS 40 ?_
      go_frame
      refine kS 41 ?_
      go_frame
      refine kS 42 ?_
      go_frame
      refine kS 43 ?_
      go_frame
      refine kS 44 ?_
      go_frame
      refine kS 45 ?_
      go_frame
      refine kS 46 ?_
      go_frame
      refine kS 47 ?_
      go_frame
      refine kT 48 ?_
      go_frame
      refine kT 49 ?_
      go_frame
      refine kS 50 ?_
      go_frame
      refine kS 51 ?_
      go_frame
      refine kS 52 ?_
      go_frame
      refine kS 53 ?_
      go_frame
      refine kS 54 ?_
      go_frame
      refine kS 55 ?_
      go_frame
      refine kS 56 ?_
      go_frame
      refine kS 57 ?_
      go_frame
      refine kS 58 ?_
      go_frame
      refine kT 59 ?_
      go_frame
      refine kT 60 ?_
      go_frame
      refine kS 61 ?_
      go_frame
      refine kS 62 ?_
      go_frame
      refine kS 63 ?_
      go_frame
      refine wpAnyH_take (i := 64) (oi := { dst := some 116, op := Op.call { callee := Callee.value (Operand.func 89), args := #[Operand.tmp 113, Operand.tmp 115], argTypes := #[34, 9] }, type := 4, pos := "l06_manifest.go:149", after := #[{ on := 61, ground := Ground.data }, { on := 63, ground := Ground.data }, { on := 60, ground := Ground.chain }, { on := 60, ground := Ground.guard }], guard := some (60, true) }) (v := undef) rfl (by kernel_rfl) (by kernel_rfl) (by kernel_rfl) (fun _ _ _ h => h) (Or.inr ⟨by rfl, rfl⟩) (by assumption) ?_
      try simp only [Act.put, List.setIfInBounds_toArray, List.set_cons_zero, List.set_cons_succ]
      refine kS 65 ?_
      go_frame
      refine kT 66 ?_
      go_frame
      refine kT 67 ?_
      go_frame
      refine wpAnyH_done (by kernel_rfl) ?_ _
      refine NoPanic.normal ?_
      clear hHeld
      go_wp2
      go_ret
      exact IsBB.no HN.out (by rw [Hx0.out]; exact b3)
    have HWd := Lib.hid (show (fi == IntKind.i64.wrap (bg + 5)) = true from by rw [HW.out]; simpa using h5)
    have Hh5 := Lib.hid h5; clear h5
    by_cases h6 : fi ≤ s.hi.a
    rotate_left
    · have d6 : decide (fi ≤ s.hi.a) = false := by simpa using h6
      have HN := Lib.hid (show ¬ TakeP s ⟨3, tk, 1, bg, fi, ky⟩ from fun h => h6 (HTT.out.1 h).2.2.2.2.2.1)
      clear h6
      refine wp_region_noPanic ?_
      refine wp_region_held_drew (S := (fun w' => (w'.cell? ⟨x0, 0, none⟩ = some (.int .i64 s.sq) ∧ w'.cell? ⟨x0, 1, none⟩ = some (.int .i64 s.fe) ∧ w'.cell? ⟨x0, 2, none⟩ = some (.slice A s.ents.length c) ∧ w'.cell? ⟨x0, 3, none⟩ = some (.slice A2 s.tmbs.length c2) ∧ w'.cell? ⟨x0, 4, none⟩ = some (.int .i64 s.lo.a) ∧ w'.cell? ⟨x0, 5, none⟩ = some (.int .i64 s.lo.b) ∧ w'.cell? ⟨x0, 6, none⟩ = some (.int .i64 s.lo.c) ∧ w'.cell? ⟨x0, 7, none⟩ = some (.int .i64 s.hi.a) ∧ w'.cell? ⟨x0, 8, none⟩ = some (.int .i64 s.hi.b) ∧ w'.cell? ⟨x0, 9, none⟩ = some (.int .i64 s.hi.c)) ∧ w'.cell? ⟨x0 + 1, 0, none⟩ = some (.int .i64 3) ∧ w'.cell? ⟨x0 + 1, 1, none⟩ = some (.int .i64 tk) ∧ w'.cell? ⟨x0 + 1, 2, none⟩ = some (.int .i64 1) ∧ w'.cell? ⟨x0 + 1, 3, none⟩ = some (.int .i64 bg) ∧ w'.cell? ⟨x0 + 1, 4, none⟩ = some (.int .i64 fi) ∧ w'.cell? ⟨x0 + 1, 5, none⟩ = some (.string ky))) (by kernel_rfl) (⟨B1.out.1.ten, B1.out.six⟩) (fun hHeld => ?_)
      refine kT 0 ?_
      go_frame
      refine kT 1 ?_
      go_frame
      refine kT 2 ?_
      go_frame
      refine kT 3 ?_
      go_frame
      refine kT 4 ?_
      go_frame
      refine kT 5 ?_
      go_frame
      refine kT 6 ?_
      go_frame
      refine kT 7 ?_
      go_frame
      refine kT 8 ?_
      go_frame
      refine kT 9 ?_
      go_frame
      refine kT 10 ?_
      go_frame
      refine kT 11 ?_
      go_frame
      refine kT 12 ?_
      go_frame
      refine kT 13 ?_
      go_frame
      refine kT 14 ?_
      go_frame
      refine kT 15 ?_
      go_frame
      refine kT 16 ?_
      go_frame
      refine kT 17 ?_
      go_frame
      refine kT 18 ?_
      go_frame
      refine kT 19 ?_
      go_frame
      refine kT 20 ?_
      go_frame
      refine kT 21 ?_
      go_frame
      refine kT 22 ?_
      go_frame
      refine kT 23 ?_
      go_frame
      refine kT 24 ?_
      go_frame
      refine kT 25 ?_
      go_frame
      refine kT 26 ?_
      go_frame
      refine kT 27 ?_
      go_frame
      refine kT 28 ?_
      go_frame
      refine kT 29 ?_
      go_frame
      refine kT 30 ?_
      go_frame
      refine kT 31 ?_
      go_frame
      refine kT 32 ?_
      go_frame
      refine kT 33 ?_
      go_frame
      refine wpAnyH_ready (rs := [34]) (by kernel_rfl) (by simp) ?_
      refine AllReadyH.cons (o := { dst := some 86, op := Op.call { callee := Callee.value (Operand.func 90), args := #[Operand.tmp 85], argTypes := #[3] }, type := 3, pos := "l06_manifest.go:149", after := #[{ on := 33, ground := Ground.data }, { on := 27, ground := Ground.chain }, { on := 27, ground := Ground.guard }], guard := some (27, true) }) rfl (fun K hK => ?_) AllReadyH.nil
      go_simp
      refine (L1.out _).mono ?_
      rintro r w3 ⟨rfl, hb3'⟩
      have hb3 : Below w1.heap.size w1 w3 := (Below.refl _ _).drew.trans hb3'
      clear hb3'
      have B3 := Lib.hid (B1.out.below hb3)
      have b3 : Below x0 w w3 := b1.trans (hb3.mono (by have := B1.out.2.2; omega))
      go_wp2_with fail
      refine hK.out _ _ (⟨B3.out.1.ten, B3.out.six⟩) (fun hHeld => ?_)
      clear hK K
      try simp only [Act.put, List.setIfInBounds_toArray, List.set_cons_zero, List.set_cons_succ]
      refine kT 35 ?_
      go_frame
      refine kT 36 ?_
      go_frame
      rw [HWd.out]
      refine kT 37 ?_
      go_frame
      refine kT 38 ?_
      go_frame
      refine kT 39 ?_
      go_frame
      refine kT 40 ?_
      go_frame
      refine kT 41 ?_
      go_frame
      refine kT 42 ?_
      go_frame
      refine kT 43 ?_
      go_frame
      rw [show IntKind.i64.wrap 0 = 0 from by rw [IntKind.wrap_i64]; rfl]
      refine kT 44 ?_
      go_frame
      refine kT 45 ?_
      go_frame
      refine kT 46 ?_
      go_frame
      refine kT 47 ?_
      go_frame
      refine kT 48 ?_
      go_frame
      refine kT 49 ?_
      go_frame
      refine kS 50 ?_
      go_frame
      refine kS 51 ?_
      go_frame
      refine kS 52 ?_
      go_frame
      refine kS 53 ?_
      go_frame
      refine kS 54 ?_
      go_frame
      refine kS 55 ?_
      go_frame
      refine kS 56 ?_
      go_frame
      refine kS 57 ?_
      go_frame
      refine kS 58 ?_
      go_frame
      refine kT 59 ?_
      go_frame
      refine kT 60 ?_
      go_frame
      refine kS 61 ?_
      go_frame
      refine kS 62 ?_
      go_frame
      refine kS 63 ?_
      go_frame
      refine wpAnyH_take (i := 64) (oi := { dst := some 116, op := Op.call { callee := Callee.value (Operand.func 89), args := #[Operand.tmp 113, Operand.tmp 115], argTypes := #[34, 9] }, type := 4, pos := "l06_manifest.go:149", after := #[{ on := 61, ground := Ground.data }, { on := 63, ground := Ground.data }, { on := 60, ground := Ground.chain }, { on := 60, ground := Ground.guard }], guard := some (60, true) }) (v := undef) rfl (by kernel_rfl) (by kernel_rfl) (by kernel_rfl) (fun _ _ _ h => h) (Or.inr ⟨by rfl, rfl⟩) (by assumption) ?_
      try simp only [Act.put, List.setIfInBounds_toArray, List.set_cons_zero, List.set_cons_succ]
      refine kS 65 ?_
      go_frame
      refine kT 66 ?_
      go_frame
      refine kT 67 ?_
      go_frame
      refine wpAnyH_done (by kernel_rfl) ?_ _
      refine NoPanic.normal ?_
      clear hHeld
      go_wp2
      go_ret
      exact IsBB.no HN.out (by rw [Hx0.out]; exact b3)
    have d6 : decide (fi ≤ s.hi.a) = true := by simpa using h6
    have Hh6 := Lib.hid h6; clear h6
    by_cases h7 : s.lo.a ≤ bg
    rotate_left
    · have d7 : decide (s.lo.a ≤ bg) = false := by simpa using h7
      have HN := Lib.hid (show ¬ TakeP s ⟨3, tk, 1, bg, fi, ky⟩ from fun h => h7 (HTT.out.1 h).2.2.2.2.2.2.1)
      clear h7
      refine wp_region_noPanic ?_
      refine wp_region_held_drew (S := (fun w' => (w'.cell? ⟨x0, 0, none⟩ = some (.int .i64 s.sq) ∧ w'.cell? ⟨x0, 1, none⟩ = some (.int .i64 s.fe) ∧ w'.cell? ⟨x0, 2, none⟩ = some (.slice A s.ents.length c) ∧ w'.cell? ⟨x0, 3, none⟩ = some (.slice A2 s.tmbs.length c2) ∧ w'.cell? ⟨x0, 4, none⟩ = some (.int .i64 s.lo.a) ∧ w'.cell? ⟨x0, 5, none⟩ = some (.int .i64 s.lo.b) ∧ w'.cell? ⟨x0, 6, none⟩ = some (.int .i64 s.lo.c) ∧ w'.cell? ⟨x0, 7, none⟩ = some (.int .i64 s.hi.a) ∧ w'.cell? ⟨x0, 8, none⟩ = some (.int .i64 s.hi.b) ∧ w'.cell? ⟨x0, 9, none⟩ = some (.int .i64 s.hi.c)) ∧ w'.cell? ⟨x0 + 1, 0, none⟩ = some (.int .i64 3) ∧ w'.cell? ⟨x0 + 1, 1, none⟩ = some (.int .i64 tk) ∧ w'.cell? ⟨x0 + 1, 2, none⟩ = some (.int .i64 1) ∧ w'.cell? ⟨x0 + 1, 3, none⟩ = some (.int .i64 bg) ∧ w'.cell? ⟨x0 + 1, 4, none⟩ = some (.int .i64 fi) ∧ w'.cell? ⟨x0 + 1, 5, none⟩ = some (.string ky))) (by kernel_rfl) (⟨B1.out.1.ten, B1.out.six⟩) (fun hHeld => ?_)
      refine kT 0 ?_
      go_frame
      refine kT 1 ?_
      go_frame
      refine kT 2 ?_
      go_frame
      refine kT 3 ?_
      go_frame
      refine kT 4 ?_
      go_frame
      refine kT 5 ?_
      go_frame
      refine kT 6 ?_
      go_frame
      refine kT 7 ?_
      go_frame
      refine kT 8 ?_
      go_frame
      refine kT 9 ?_
      go_frame
      refine kT 10 ?_
      go_frame
      refine kT 11 ?_
      go_frame
      refine kT 12 ?_
      go_frame
      refine kT 13 ?_
      go_frame
      refine kT 14 ?_
      go_frame
      refine kT 15 ?_
      go_frame
      refine kT 16 ?_
      go_frame
      refine kT 17 ?_
      go_frame
      refine kT 18 ?_
      go_frame
      refine kT 19 ?_
      go_frame
      refine kT 20 ?_
      go_frame
      refine kT 21 ?_
      go_frame
      refine kT 22 ?_
      go_frame
      refine kT 23 ?_
      go_frame
      refine kT 24 ?_
      go_frame
      refine kT 25 ?_
      go_frame
      refine kT 26 ?_
      go_frame
      refine kT 27 ?_
      go_frame
      refine kT 28 ?_
      go_frame
      refine kT 29 ?_
      go_frame
      refine kT 30 ?_
      go_frame
      refine kT 31 ?_
      go_frame
      refine kT 32 ?_
      go_frame
      refine kT 33 ?_
      go_frame
      refine wpAnyH_ready (rs := [34]) (by kernel_rfl) (by simp) ?_
      refine AllReadyH.cons (o := { dst := some 86, op := Op.call { callee := Callee.value (Operand.func 90), args := #[Operand.tmp 85], argTypes := #[3] }, type := 3, pos := "l06_manifest.go:149", after := #[{ on := 33, ground := Ground.data }, { on := 27, ground := Ground.chain }, { on := 27, ground := Ground.guard }], guard := some (27, true) }) rfl (fun K hK => ?_) AllReadyH.nil
      go_simp
      refine (L1.out _).mono ?_
      rintro r w3 ⟨rfl, hb3'⟩
      have hb3 : Below w1.heap.size w1 w3 := (Below.refl _ _).drew.trans hb3'
      clear hb3'
      have B3 := Lib.hid (B1.out.below hb3)
      have b3 : Below x0 w w3 := b1.trans (hb3.mono (by have := B1.out.2.2; omega))
      go_wp2_with fail
      refine hK.out _ _ (⟨B3.out.1.ten, B3.out.six⟩) (fun hHeld => ?_)
      clear hK K
      try simp only [Act.put, List.setIfInBounds_toArray, List.set_cons_zero, List.set_cons_succ]
      refine kT 35 ?_
      go_frame
      refine kT 36 ?_
      go_frame
      rw [HWd.out]
      refine kT 37 ?_
      go_frame
      refine kT 38 ?_
      go_frame
      refine kT 39 ?_
      go_frame
      refine kT 40 ?_
      go_frame
      refine kT 41 ?_
      go_frame
      refine kT 42 ?_
      go_frame
      refine kT 43 ?_
      go_frame
      rw [show IntKind.i64.wrap 0 = 0 from by rw [IntKind.wrap_i64]; rfl]
      refine kT 44 ?_
      go_frame
      refine kT 45 ?_
      go_frame
      refine kT 46 ?_
      go_frame
      refine kT 47 ?_
      go_frame
      refine kT 48 ?_
      go_frame
      refine kT 49 ?_
      go_frame
      refine kT 50 ?_
      go_frame
      refine kT 51 ?_
      go_frame
      refine kT 52 ?_
      go_frame
      rw [show IntKind.i64.wrap 0 = 0 from by rw [IntKind.wrap_i64]; rfl]
      refine kT 53 ?_
      go_frame
      refine kT 54 ?_
      go_frame
      refine kT 55 ?_
      go_frame
      refine kT 56 ?_
      go_frame
      refine kT 57 ?_
      go_frame
      refine kT 58 ?_
      go_frame
      refine kT 59 ?_
      go_frame
      refine kT 60 ?_
      go_frame
      refine kS 61 ?_
      go_frame
      refine kS 62 ?_
      go_frame
      refine kS 63 ?_
      go_frame
      refine wpAnyH_take (i := 64) (oi := { dst := some 116, op := Op.call { callee := Callee.value (Operand.func 89), args := #[Operand.tmp 113, Operand.tmp 115], argTypes := #[34, 9] }, type := 4, pos := "l06_manifest.go:149", after := #[{ on := 61, ground := Ground.data }, { on := 63, ground := Ground.data }, { on := 60, ground := Ground.chain }, { on := 60, ground := Ground.guard }], guard := some (60, true) }) (v := undef) rfl (by kernel_rfl) (by kernel_rfl) (by kernel_rfl) (fun _ _ _ h => h) (Or.inr ⟨by rfl, rfl⟩) (by assumption) ?_
      try simp only [Act.put, List.setIfInBounds_toArray, List.set_cons_zero, List.set_cons_succ]
      refine kS 65 ?_
      go_frame
      refine kT 66 ?_
      go_frame
      refine kT 67 ?_
      go_frame
      refine wpAnyH_done (by kernel_rfl) ?_ _
      refine NoPanic.normal ?_
      clear hHeld
      go_wp2
      go_ret
      exact IsBB.no HN.out (by rw [Hx0.out]; exact b3)
    have d7 : decide (s.lo.a ≤ bg) = true := by simpa using h7
    have HY := Lib.hid (show ((!memB ky (keysAll s)) = true ↔ TakeP s ⟨3, tk, 1, bg, fi, ky⟩) from ⟨fun hb => HTT.out.2 ⟨Hh0.out, Hh1.out, Hh2.out, Hh3.out, Hh5.out, Hh6.out, h7, by simpa using hb⟩, fun h => by simpa using (HTT.out.1 h).2.2.2.2.2.2.2⟩)
    clear h7
    generalize hmb : memB ky (keysAll s) = mb at *
    refine wp_region_noPanic ?_
    refine wp_region_held_drew (S := (fun w' => (w'.cell? ⟨x0, 0, none⟩ = some (.int .i64 s.sq) ∧ w'.cell? ⟨x0, 1, none⟩ = some (.int .i64 s.fe) ∧ w'.cell? ⟨x0, 2, none⟩ = some (.slice A s.ents.length c) ∧ w'.cell? ⟨x0, 3, none⟩ = some (.slice A2 s.tmbs.length c2) ∧ w'.cell? ⟨x0, 4, none⟩ = some (.int .i64 s.lo.a) ∧ w'.cell? ⟨x0, 5, none⟩ = some (.int .i64 s.lo.b) ∧ w'.cell? ⟨x0, 6, none⟩ = some (.int .i64 s.lo.c) ∧ w'.cell? ⟨x0, 7, none⟩ = some (.int .i64 s.hi.a) ∧ w'.cell? ⟨x0, 8, none⟩ = some (.int .i64 s.hi.b) ∧ w'.cell? ⟨x0, 9, none⟩ = some (.int .i64 s.hi.c)) ∧ w'.cell? ⟨x0 + 1, 0, none⟩ = some (.int .i64 3) ∧ w'.cell? ⟨x0 + 1, 1, none⟩ = some (.int .i64 tk) ∧ w'.cell? ⟨x0 + 1, 2, none⟩ = some (.int .i64 1) ∧ w'.cell? ⟨x0 + 1, 3, none⟩ = some (.int .i64 bg) ∧ w'.cell? ⟨x0 + 1, 4, none⟩ = some (.int .i64 fi) ∧ w'.cell? ⟨x0 + 1, 5, none⟩ = some (.string ky))) (by kernel_rfl) (⟨B1.out.1.ten, B1.out.six⟩) (fun hHeld => ?_)
    refine kT 0 ?_
    go_frame
    refine kT 1 ?_
    go_frame
    refine kT 2 ?_
    go_frame
    refine kT 3 ?_
    go_frame
    refine kT 4 ?_
    go_frame
    refine kT 5 ?_
    go_frame
    refine kT 6 ?_
    go_frame
    refine kT 7 ?_
    go_frame
    refine kT 8 ?_
    go_frame
    refine kT 9 ?_
    go_frame
    refine kT 10 ?_
    go_frame
    refine kT 11 ?_
    go_frame
    refine kT 12 ?_
    go_frame
    refine kT 13 ?_
    go_frame
    refine kT 14 ?_
    go_frame
    refine kT 15 ?_
    go_frame
    refine kT 16 ?_
    go_frame
    refine kT 17 ?_
    go_frame
    refine kT 18 ?_
    go_frame
    refine kT 19 ?_
    go_frame
    refine kT 20 ?_
    go_frame
    refine kT 21 ?_
    go_frame
    refine kT 22 ?_
    go_frame
    refine kT 23 ?_
    go_frame
    refine kT 24 ?_
    go_frame
    refine kT 25 ?_
    go_frame
    refine kT 26 ?_
    go_frame
    refine kT 27 ?_
    go_frame
    refine kT 28 ?_
    go_frame
    refine kT 29 ?_
    go_frame
    refine kT 30 ?_
    go_frame
    refine kT 31 ?_
    go_frame
    refine kT 32 ?_
    go_frame
    refine kT 33 ?_
    go_frame
    refine wpAnyH_ready (rs := [34]) (by kernel_rfl) (by simp) ?_
    refine AllReadyH.cons (o := { dst := some 86, op := Op.call { callee := Callee.value (Operand.func 90), args := #[Operand.tmp 85], argTypes := #[3] }, type := 3, pos := "l06_manifest.go:149", after := #[{ on := 33, ground := Ground.data }, { on := 27, ground := Ground.chain }, { on := 27, ground := Ground.guard }], guard := some (27, true) }) rfl (fun K hK => ?_) AllReadyH.nil
    go_simp
    refine (L1.out _).mono ?_
    rintro r w3 ⟨rfl, hb3'⟩
    have hb3 : Below w1.heap.size w1 w3 := (Below.refl _ _).drew.trans hb3'
    clear hb3'
    have B3 := Lib.hid (B1.out.below hb3)
    have b3 : Below x0 w w3 := b1.trans (hb3.mono (by have := B1.out.2.2; omega))
    go_wp2_with fail
    refine hK.out _ _ (⟨B3.out.1.ten, B3.out.six⟩) (fun hHeld => ?_)
    clear hK K
    try simp only [Act.put, List.setIfInBounds_toArray, List.set_cons_zero, List.set_cons_succ]
    refine kT 35 ?_
    go_frame
    refine kT 36 ?_
    go_frame
    rw [HWd.out]
    refine kT 37 ?_
    go_frame
    refine kT 38 ?_
    go_frame
    refine kT 39 ?_
    go_frame
    refine kT 40 ?_
    go_frame
    refine kT 41 ?_
    go_frame
    refine kT 42 ?_
    go_frame
    refine kT 43 ?_
    go_frame
    rw [show IntKind.i64.wrap 0 = 0 from by rw [IntKind.wrap_i64]; rfl]
    refine kT 44 ?_
    go_frame
    refine kT 45 ?_
    go_frame
    refine kT 46 ?_
    go_frame
    refine kT 47 ?_
    go_frame
    refine kT 48 ?_
    go_frame
    refine kT 49 ?_
    go_frame
    refine kT 50 ?_
    go_frame
    refine kT 51 ?_
    go_frame
    refine kT 52 ?_
    go_frame
    rw [show IntKind.i64.wrap 0 = 0 from by rw [IntKind.wrap_i64]; rfl]
    refine kT 53 ?_
    go_frame
    refine kT 54 ?_
    go_frame
    refine kT 55 ?_
    go_frame
    refine kT 56 ?_
    go_frame
    refine kT 57 ?_
    go_frame
    refine kT 58 ?_
    go_frame
    refine kT 59 ?_
    go_frame
    refine kT 60 ?_
    go_frame
    refine kT 61 ?_
    go_frame
    refine kT 62 ?_
    go_frame
    refine kT 63 ?_
    go_frame
    refine wpAnyH_ready (rs := [64]) (by kernel_rfl) (by simp) ?_
    refine AllReadyH.cons (o := { dst := some 116, op := Op.call { callee := Callee.value (Operand.func 89), args := #[Operand.tmp 113, Operand.tmp 115], argTypes := #[34, 9] }, type := 4, pos := "l06_manifest.go:149", after := #[{ on := 61, ground := Ground.data }, { on := 63, ground := Ground.data }, { on := 60, ground := Ground.chain }, { on := 60, ground := Ground.guard }], guard := some (60, true) }) rfl (fun K hK => ?_) AllReadyH.nil
    go_simp
    refine (l06Named_any A c A2 c2 s ky x0 w3 (HS.out _ b3) (by have := B3.out.2.2; omega) hl hl2).mono ?_
    rw [hmb]
    rintro r w4 ⟨rfl, hb4⟩
    have B4 := Lib.hid (B3.out.below hb4)
    have b4 : Below x0 w w4 := b3.trans (hb4.mono (by have := B3.out.2.2; omega))
    go_wp2_with fail
    refine hK.out _ _ (⟨B4.out.1.ten, B4.out.six⟩) (fun hHeld => ?_)
    clear hK K
    try simp only [Act.put, List.setIfInBounds_toArray, List.set_cons_zero, List.set_cons_succ]
    refine kT 65 ?_
    go_frame
    refine kT 66 ?_
    go_frame
    refine kT 67 ?_
    go_frame
    refine wpAnyH_done (by kernel_rfl) ?_ _
    refine NoPanic.normal ?_
    clear hHeld
    go_wp2
    go_ret
    exact ⟨_, HY.out, rfl, by rw [Hx0.out]; exact b4⟩

end Go.Proofs.YtpfanmcjlfdaiaaGreatDoorR
