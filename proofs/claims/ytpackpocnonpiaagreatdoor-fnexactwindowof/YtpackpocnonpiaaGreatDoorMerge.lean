/-
  Contracts of what puts two aggregates together, in both packages: counts and sums are added (as floats, which are exact there), the rest by its rule. Conditions: counts and sums are far below 2 to the 53.
-/
import Derived.Test.YtpackpocnonpiaaGreatDoorMean
import Derived.Test.YtpackpocnonpiaaGreatDoorFlt
import Derived.Deep.RegionHeld3
import Derived.Deep.RegionWith
namespace Go.Proofs.YtpackpocnonpiaaGreatDoor
open Go.ChangeShapes Go.WideShapes Go.ChangeAt Go.RowKit
set_option linter.unusedVariables false

/-- both together, the second being later -/
def gMerge (a b : GAgg) : GAgg := if a.cnt = 0 then b else if b.cnt = 0 then a else ⟨a.cnt + b.cnt, a.sum + b.sum, min a.mn b.mn, max a.mx b.mx, a.fst, b.lst⟩

/-- its numbers are small enough for floats -/
def GAgg.small (a : GAgg) : Prop := -1000000000000000 ≤ a.cnt ∧ a.cnt ≤ 1000000000000000 ∧ -1000000000000000 ≤ a.sum ∧ a.sum ≤ 1000000000000000

theorem tally_any (a : GAgg) (w : World) : Calls Tryz.prog 225 #[.agg #[.int .i64 a.cnt, .int .i64 a.sum, .int .i64 a.mn, .int .i64 a.mx, .int .i64 a.fst, .int .i64 a.lst]] w fun e w' => e = .returned (.complex .f64 (floatOfInt .f64 a.cnt) (floatOfInt .f64 a.sum)) ∧ Below w.heap.size w w' := by
  have c1 : ∀ (n : Int) (W : World), (convert 3 268 (.int .i64 n)).run Tryz.prog W = .ok (.float .f64 (floatOfInt .f64 n)) W := fun n W => run_convert_int_float W 3 268 .i64 .f64 n (by kernel_rfl) (by kernel_rfl)
  go_enter Tryz.func225, Tryz.ntmps225
  go_wp2
  go_ret
  exact ⟨rfl, bal (Below.refl _ _) _⟩

theorem add_float (a b c d : Int) (ha : a.natAbs < 9007199254740992) (hb : b.natAbs < 9007199254740992) (hab : (a + b).natAbs < 9007199254740992) (hc : c.natAbs < 9007199254740992) (hd : d.natAbs < 9007199254740992) (hcd : (c + d).natAbs < 9007199254740992) (t : TypeId) (W : World) :
    (binOp .add t (.complex .f64 (floatOfInt .f64 a) (floatOfInt .f64 c)) (.complex .f64 (floatOfInt .f64 b) (floatOfInt .f64 d))).run Tryz.prog W = .ok (.complex .f64 (floatOfInt .f64 (a + b)) (floatOfInt .f64 (c + d))) W := by
  refine run_complex_sum W .add (Or.inl rfl) t .f64 _ _ _ _ _ _ ?_
  have e1 : floatBits .add .f64 (floatOfInt .f64 a) (floatOfInt .f64 b) = some (floatOfInt .f64 (a + b)) := near_add a b ha hb hab
  have e2 : floatBits .add .f64 (floatOfInt .f64 c) (floatOfInt .f64 d) = some (floatOfInt .f64 (c + d)) := near_add c d hc hd hcd
  unfold cSumBits
  rw [e1, e2]
  rfl

theorem back_float (n : Int) (h : n.natAbs < 9007199254740992) (W : World) : (convert 268 3 (.float .f64 (floatOfInt .f64 n))).run Tryz.prog W = .ok (.int .i64 n) W :=
  run_convert_float_int W 268 3 .f64 .i64 _ n (by kernel_rfl) (by kernel_rfl) (near_int n h)

set_option maxRecDepth 100000 in
set_option maxHeartbeats 1000000 in
theorem then_any (a b : GAgg) (ha : a.small) (hb : b.small) (w : World) : Calls Tryz.prog 201 #[.agg #[.int .i64 a.cnt, .int .i64 a.sum, .int .i64 a.mn, .int .i64 a.mx, .int .i64 a.fst, .int .i64 a.lst], .agg #[.int .i64 b.cnt, .int .i64 b.sum, .int .i64 b.mn, .int .i64 b.mx, .int .i64 b.fst, .int .i64 b.lst]] w fun e w' => e = .returned (gMerge a b).val ∧ Below w.heap.size w w' := by
  obtain ⟨a1, a2, a3, a4⟩ := ha
  obtain ⟨b1, b2, b3, b4⟩ := hb
  by_cases h0 : a.cnt = 0
  · have d0 : (a.cnt == 0) = true := by simpa using h0
    have e : gMerge a b = b := by simp [gMerge, h0]
    have E := Lib.hid e; clear e h0 a1 a2 a3 a4 b1 b2 b3 b4
    go_enter Tryz.func201, Tryz.ntmps201
    go_wp2
    refine bodyPost_ret (v := b.val) (by simp [results, Tryz.results201, go_sem, GAgg.val]) rfl ⟨by rw [E.out], ?_⟩
    exact bal (bal (bal (Below.refl _ _) _) _) _
  · have d0 : (a.cnt == 0) = false := by simpa using h0
    by_cases k0 : b.cnt = 0
    · have d1 : (b.cnt == 0) = true := by simpa using k0
      have e : gMerge a b = a := by simp [gMerge, h0, k0]
      have E := Lib.hid e; clear e h0 k0 a1 a2 a3 a4 b1 b2 b3 b4
      go_enter Tryz.func201, Tryz.ntmps201
      go_wp2
      refine bodyPost_ret (v := a.val) (by simp [results, Tryz.results201, go_sem, GAgg.val]) rfl ⟨by rw [E.out], ?_⟩
      exact bal (bal (bal (Below.refl _ _) _) _) _
    · have d1 : (b.cnt == 0) = false := by simpa using k0
      have e : gMerge a b = ⟨a.cnt + b.cnt, a.sum + b.sum, min a.mn b.mn, max a.mx b.mx, a.fst, b.lst⟩ := by simp [gMerge, h0, k0]
      have E := Lib.hid e; clear e
      obtain ⟨fl, hfl⟩ : ∃ fl : Int → Nat, fl = floatOfInt .f64 := ⟨_, rfl⟩
      have tal : ∀ (x : GAgg) (W : World), Calls Tryz.prog 225 #[.agg #[.int .i64 x.cnt, .int .i64 x.sum, .int .i64 x.mn, .int .i64 x.mx, .int .i64 x.fst, .int .i64 x.lst]] W fun e w' => e = .returned (.complex .f64 (fl x.cnt) (fl x.sum)) ∧ Below W.heap.size W w' := by rw [hfl]; exact tally_any
      have hadd := fun W => add_float a.cnt b.cnt a.sum b.sum (by omega) (by omega) (by omega) (by omega) (by omega) (by omega) 266 W
      have hb1 := back_float (a.cnt + b.cnt) (by omega)
      have hb2 := back_float (a.sum + b.sum) (by omega)
      rw [← hfl] at hadd hb1 hb2
      clear hfl
      have Tal := Lib.hid tal; clear tal
      clear h0 k0 a1 a2 a3 a4 b1 b2 b3 b4
      go_enter Tryz.func201, Tryz.ntmps201
      go_wp2_with fail
      obtain ⟨W, hW⟩ : ∃ W, W = ((w.alloc (.cells #[.int .i64 a.cnt, .int .i64 a.sum, .int .i64 a.mn, .int .i64 a.mx, .int .i64 a.fst, .int .i64 a.lst] 26)).alloc (.cells #[.int .i64 b.cnt, .int .i64 b.sum, .int .i64 b.mn, .int .i64 b.mx, .int .i64 b.fst, .int .i64 b.lst] 26)).alloc (.cells #[.int .i64 0, .int .i64 0, .int .i64 0, .int .i64 0, .int .i64 0, .int .i64 0] 26) := ⟨_, rfl⟩
      have t0 : Six W w.heap.size a := by rw [hW]; exact ((Six.new _ _ _).alloc (by simp) _).alloc (by simp; omega) _
      have t1 : Six W (w.heap.size + 1) b := by rw [hW]; have := (Six.new (w.alloc (.cells #[.int .i64 a.cnt, .int .i64 a.sum, .int .i64 a.mn, .int .i64 a.mx, .int .i64 a.fst, .int .i64 a.lst] 26)) b 26).alloc (by simp) (.cells #[.int .i64 0, .int .i64 0, .int .i64 0, .int .i64 0, .int .i64 0, .int .i64 0] 26); simpa using this
      have t2 : Six W (w.heap.size + 1 + 1) zAgg := by rw [hW]; have := Six.new ((w.alloc (.cells #[.int .i64 a.cnt, .int .i64 a.sum, .int .i64 a.mn, .int .i64 a.mx, .int .i64 a.fst, .int .i64 a.lst] 26)).alloc (.cells #[.int .i64 b.cnt, .int .i64 b.sum, .int .i64 b.mn, .int .i64 b.mx, .int .i64 b.fst, .int .i64 b.lst] 26)) zAgg 26; simpa [zAgg] using this
      have f2 : Free W (some ⟨w.heap.size + 1 + 1, 0, none⟩) := by rw [hW]; have := free_alloc ((w.alloc (.cells #[.int .i64 a.cnt, .int .i64 a.sum, .int .i64 a.mn, .int .i64 a.mx, .int .i64 a.fst, .int .i64 a.lst] 26)).alloc (.cells #[.int .i64 b.cnt, .int .i64 b.sum, .int .i64 b.mn, .int .i64 b.mx, .int .i64 b.fst, .int .i64 b.lst] 26)) #[.int .i64 0, .int .i64 0, .int .i64 0, .int .i64 0, .int .i64 0, .int .i64 0] 26 0; simpa using this
      have b0 : Below w.heap.size w W := by rw [hW]; exact bal (bal (bal (Below.refl _ _) _) _) _
      have s0 : w.heap.size + 1 + 1 < W.heap.size := by rw [hW]; simp
      rw [← hW]
      clear hW
      have T2 := Lib.hid (And.intro t2 f2); clear t2 f2
      generalize hx0 : w.heap.size = x0 at *
      have Hx0 := Lib.hid hx0; clear hx0
      obtain ⟨p0, p1, p2, p3, p4, p5⟩ := t0
      obtain ⟨q0, q1, q2, q3, q4, q5⟩ := t1
      have s00 : x0 < W.heap.size := by omega
      have s01 : x0 + 1 < W.heap.size := by omega
      have K := Lib.hid (show Below W.heap.size W W.drew ∧ Six W.drew x0 a ∧ Six W.drew (x0 + 1) b from ⟨(Below.refl _ _).drew, ⟨p0, p1, p2, p3, p4, p5⟩, ⟨q0, q1, q2, q3, q4, q5⟩⟩)
      go_region_with (go_at_call 225; refine (Tal.out _ _).mono ?_; rintro e w7 ⟨rfl, hb7⟩; replace K := Lib.hid (And.intro (K.out.1.trans (hb7.mono K.out.1.size)) (And.intro (K.out.2.1.below hb7 (Nat.lt_of_lt_of_le s00 K.out.1.size)) (K.out.2.2.below hb7 (Nat.lt_of_lt_of_le s01 K.out.1.size)))); clear hb7 p0 p1 p2 p3 p4 p5 q0 q1 q2 q3 q4 q5; obtain ⟨q0, q1, q2, q3, q4, q5⟩ := K.out.2.2; have p0 := True.intro; have p1 := True.intro; have p2 := True.intro; have p3 := True.intro; have p4 := True.intro; have p5 := True.intro)
      all_goals (
        obtain ⟨bb, ⟨u0, u1, u2, u3, u4, u5⟩, ⟨v0, v1, v2, v3, v4, v5⟩⟩ := K.out
        obtain ⟨z0, z1, z2, z3, z4, z5⟩ := T2.out.1.below bb s0
        have fz := T2.out.2.below bb (fun b e => by simp [blk] at e; omega)
        have y0 := fz _ rfl 0
        have y1 := fz _ rfl 1
        have y2 := fz _ rfl 2
        have y3 := fz _ rfl 3
        have y4 := fz _ rfl 4
        have y5 := fz _ rfl 5
        have b7 : Below x0 w w7 := b0.trans (bb.mono (by omega))
        clear bb fz K T2 b0
        go_wp2)
      all_goals (
        first | (have m1 : min a.mn b.mn = b.mn := by omega) | (have m1 : min a.mn b.mn = a.mn := by omega)
        first | (have m2 : max a.mx b.mx = b.mx := by omega) | (have m2 : max a.mx b.mx = a.mx := by omega)
        refine bodyPost_ret (v := .agg #[.int .i64 (a.cnt + b.cnt), .int .i64 (a.sum + b.sum), .int .i64 (min a.mn b.mn), .int .i64 (max a.mx b.mx), .int .i64 a.fst, .int .i64 b.lst]) (by rw [m1, m2]; simp [results, Tryz.results201, go_sem, *]) rfl ⟨by rw [E.out]; rfl, ?_⟩
        rw [Hx0.out]
        exact (((((b7.setCell (by simp; omega) _).setCell (by simp; omega) _).setCell (by simp; omega) _).setCell (by simp; omega) _).setCell (by simp; omega) _).setCell (by simp; omega) _)

end Go.Proofs.YtpackpocnonpiaaGreatDoor
