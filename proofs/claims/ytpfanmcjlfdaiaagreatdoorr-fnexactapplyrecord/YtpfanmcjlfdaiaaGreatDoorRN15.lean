/-
  Several texts as one: contracts that the law leans on; each part says what it proves and its conditions.
-/
import Derived.Test.YtpfanmcjlfdaiaaGreatDoorRTk
import Derived.Test.YtpfanmcjlfdaiaaGreatDoorRN9
import Derived.Deep.RegionHeld3

/- Contract of the program's sideBySide. Conditions: the program's table of paths is as its text lays it; lengths. -/
namespace Go.Proofs.YtpfanmcjlfdaiaaGreatDoorR
open Go.ChangeShapes Go.WideShapes Go.ChangeAt Go.RowKit Go.Deep Go.Joins
set_option linter.unusedVariables false
set_option linter.unusedSimpArgs false

theorem ixT0 (a b c : Int) (w : World) : (Instr.index 24 (.agg #[.int .i64 a, .int .i64 b, .int .i64 c]) (.int .i64 0)).run Tryz.prog w = .ok (.int .i64 a) w := by kernel_rfl

theorem ixT1 (a b c : Int) (w : World) : (Instr.index 24 (.agg #[.int .i64 a, .int .i64 b, .int .i64 c]) (.int .i64 1)).run Tryz.prog w = .ok (.int .i64 b) w := by kernel_rfl

theorem ixT2 (a b c : Int) (w : World) : (Instr.index 24 (.agg #[.int .i64 a, .int .i64 b, .int .i64 c]) (.int .i64 2)).run Tryz.prog w = .ok (.int .i64 c) w := by kernel_rfl

theorem entRight_b (e : GEnt) (b : Bool) (h : b = true ↔ EntP e) (w : World) (hk : e.key.size ≤ 2 ^ 63 - 1) (hp : Paths w) (hz : 1 < w.heap.size) : Calls Tryz.prog 91 #[.agg #[.int .i64 e.tier, .int .i64 e.beg, .int .i64 e.fin, .string e.key]] w fun x w' => x = .returned (.bool b) ∧ Below w.heap.size w w' :=
  (entRight_any e w hk hp hz).mono fun x w' ⟨b', hb', he, hB⟩ => ⟨by rw [he, Bool.eq_iff_iff.2 (hb'.trans h.symm)], hB⟩

theorem tri_set {w : World} {y : Nat} {t : GTri} (h : Tri w y t) {j : Nat} (hj : j < 3) (v : Int) : Tri (w.setCell ⟨y, j, none⟩ (.int .i64 v)) y (t.set (j : Int) v) := by
  obtain ⟨h0, h1, h2⟩ := h
  match j, hj with
  | 0, _ => exact ⟨cset_eq w y 0 _ h0, (cset_ne w y 0 1 _ (by decide)).trans h1, (cset_ne w y 0 2 _ (by decide)).trans h2⟩
  | 1, _ => exact ⟨(cset_ne w y 1 0 _ (by decide)).trans h0, cset_eq w y 1 _ h1, (cset_ne w y 1 2 _ (by decide)).trans h2⟩
  | 2, _ => exact ⟨(cset_ne w y 2 0 _ (by decide)).trans h0, (cset_ne w y 2 1 _ (by decide)).trans h1, cset_eq w y 2 _ h2⟩

theorem tri_at {w : World} {y : Nat} {t : GTri} (h : Tri w y t) {j : Nat} (hj : j < 3) : w.cell? ⟨y, j, none⟩ = some (.int .i64 (t.at (j : Int))) := by
  obtain ⟨h0, h1, h2⟩ := h
  match j, hj with
  | 0, _ => exact h0
  | 1, _ => exact h1
  | 2, _ => exact h2

set_option maxRecDepth 100000 in
set_option maxHeartbeats 4000000 in
theorem sideBySide_any (A : Option Addr) (c : Nat) (A2 : Option Addr) (c2 : Nat) (s : GSt) (B : Nat) (w : World) (h : StAt w B A A2 s) (hB : B ≤ w.heap.size) (hf : ∀ o ∈ s.ents, o.fit) (hl : s.ents.length ≤ 1048576) (hp : Paths w) (hz : 1 < w.heap.size) : Calls Tryz.prog 63 #[.agg #[.int .i64 s.sq, .int .i64 s.fe, .slice A s.ents.length c, .slice A2 s.tmbs.length c2, .int .i64 s.lo.a, .int .i64 s.lo.b, .int .i64 s.lo.c, .int .i64 s.hi.a, .int .i64 s.hi.b, .int .i64 s.hi.c]] w (IsBB (SidesP s) w) := by
  have H := Lib.hid h; clear h
  have Hf := Lib.hid hf; clear hf
  have HP : Hid (∀ w', Below w.heap.size w w' → Paths w' ∧ 1 < w'.heap.size) := Lib.hid (fun w' h => ⟨hp.below h hz, Nat.lt_of_lt_of_le hz h.size⟩)
  clear hp
  go_enter Tryz.func63, Tryz.ntmps63
  go_wp2_with fail
  have CA : Hid (Cells (w.alloc (.cells #[.int .i64 s.sq, .int .i64 s.fe, .slice A s.ents.length c, .slice A2 s.tmbs.length c2, .int .i64 s.lo.a, .int .i64 s.lo.b, .int .i64 s.lo.c, .int .i64 s.hi.a, .int .i64 s.hi.b, .int .i64 s.hi.c] 34)) w.heap.size 0 [.int .i64 s.sq, .int .i64 s.fe, .slice A s.ents.length c, .slice A2 s.tmbs.length c2, .int .i64 s.lo.a, .int .i64 s.lo.b, .int .i64 s.lo.c, .int .i64 s.hi.a, .int .i64 s.hi.b, .int .i64 s.hi.c]) := Lib.hid (Cells.new w _ _)
  have b0 : Below w.heap.size w (w.alloc (.cells #[.int .i64 s.sq, .int .i64 s.fe, .slice A s.ents.length c, .slice A2 s.tmbs.length c2, .int .i64 s.lo.a, .int .i64 s.lo.b, .int .i64 s.lo.c, .int .i64 s.hi.a, .int .i64 s.hi.b, .int .i64 s.hi.c] 34)) := bal (Below.refl _ _) _
  have s0 : w.heap.size < (w.alloc (.cells #[.int .i64 s.sq, .int .i64 s.fe, .slice A s.ents.length c, .slice A2 s.tmbs.length c2, .int .i64 s.lo.a, .int .i64 s.lo.b, .int .i64 s.lo.c, .int .i64 s.hi.a, .int .i64 s.hi.b, .int .i64 s.hi.c] 34)).heap.size := by simp
  generalize w.alloc (.cells #[.int .i64 s.sq, .int .i64 s.fe, .slice A s.ents.length c, .slice A2 s.tmbs.length c2, .int .i64 s.lo.a, .int .i64 s.lo.b, .int .i64 s.lo.c, .int .i64 s.hi.a, .int .i64 s.hi.b, .int .i64 s.hi.c] 34) = W at *
  generalize hx0 : w.heap.size = x0 at *
  have Hx0 := Lib.hid hx0; clear hx0
  obtain ⟨t0, t1, t2, t3, t4, t5, t6, t7, t8, t9⟩ := CA.out.ten
  go_wp2_with fail
  go_loopw [10] (fun i wr => ∃ k : Nat, k ≤ 3 ∧ i = .int .i64 (k : Int) ∧ Hid (∀ i, i < k → 0 ≤ s.lo.at (i : Nat) ∧ s.lo.at (i : Nat) ≤ 100000) ∧ wr = W) (fun i _ => 3 - (intOf i).toNat)
  case atStart => exact ⟨0, by omega, rfl, Lib.hid (fun i h => by omega), rfl⟩
  case round =>
    obtain ⟨k, hk, hi, HL, rfl⟩ := hrel
    by_cases h3 : k < 3
    · rcases (show k = 0 ∨ k = 1 ∨ k = 2 by omega) with rfl | rfl | rfl
      · rw [show ((0 : Nat) : Int) = 0 from rfl] at hi
        subst hi
        have ix := ixT0 s.lo.a s.lo.b s.lo.c
        cases hin : inB s.lo.a 0 100000
        · have HN := Lib.hid (show ¬ SidesP s from fun h => by
            have := h.1 0 (by omega)
            have e : s.lo.at (0 : Nat) = s.lo.a := rfl
            rw [e, ← inB_iff, hin] at this
            cases this)
          go_wp2_with (go_at_call 62; refine (within_any _ _ _ _).mono ?_; rintro e w' ⟨rfl, rfl⟩)
          go_ret
          exact IsBB.no HN.out (by rw [Hx0.out]; exact b0)
        · have HL2 := Lib.hid (show ∀ i, i < 0 + 1 → 0 ≤ s.lo.at (i : Nat) ∧ s.lo.at (i : Nat) ≤ 100000 from fun i hi => by
            by_cases e : i = 0
            · subst e
              exact inB_iff.1 hin
            · exact HL.out i (by omega))
          go_wp2_with (go_at_call 62; refine (within_any _ _ _ _).mono ?_; rintro e w' ⟨rfl, rfl⟩)
          go_roundw
          case rel => exact ⟨0 + 1, by omega, rfl, HL2, trivial⟩
          case measure => simp [intOf]
      · rw [show ((1 : Nat) : Int) = 1 from rfl] at hi
        subst hi
        have ix := ixT1 s.lo.a s.lo.b s.lo.c
        cases hin : inB s.lo.b 0 100000
        · have HN := Lib.hid (show ¬ SidesP s from fun h => by
            have := h.1 1 (by omega)
            have e : s.lo.at (1 : Nat) = s.lo.b := rfl
            rw [e, ← inB_iff, hin] at this
            cases this)
          go_wp2_with (go_at_call 62; refine (within_any _ _ _ _).mono ?_; rintro e w' ⟨rfl, rfl⟩)
          go_ret
          exact IsBB.no HN.out (by rw [Hx0.out]; exact b0)
        · have HL2 := Lib.hid (show ∀ i, i < 1 + 1 → 0 ≤ s.lo.at (i : Nat) ∧ s.lo.at (i : Nat) ≤ 100000 from fun i hi => by
            by_cases e : i = 1
            · subst e
              exact inB_iff.1 hin
            · exact HL.out i (by omega))
          go_wp2_with (go_at_call 62; refine (within_any _ _ _ _).mono ?_; rintro e w' ⟨rfl, rfl⟩)
          go_roundw
          case rel => exact ⟨1 + 1, by omega, rfl, HL2, trivial⟩
          case measure => simp [intOf]
      · rw [show ((2 : Nat) : Int) = 2 from rfl] at hi
        subst hi
        have ix := ixT2 s.lo.a s.lo.b s.lo.c
        cases hin : inB s.lo.c 0 100000
        · have HN := Lib.hid (show ¬ SidesP s from fun h => by
            have := h.1 2 (by omega)
            have e : s.lo.at (2 : Nat) = s.lo.c := rfl
            rw [e, ← inB_iff, hin] at this
            cases this)
          go_wp2_with (go_at_call 62; refine (within_any _ _ _ _).mono ?_; rintro e w' ⟨rfl, rfl⟩)
          go_ret
          exact IsBB.no HN.out (by rw [Hx0.out]; exact b0)
        · have HL2 := Lib.hid (show ∀ i, i < 2 + 1 → 0 ≤ s.lo.at (i : Nat) ∧ s.lo.at (i : Nat) ≤ 100000 from fun i hi => by
            by_cases e : i = 2
            · subst e
              exact inB_iff.1 hin
            · exact HL.out i (by omega))
          go_wp2_with (go_at_call 62; refine (within_any _ _ _ _).mono ?_; rintro e w' ⟨rfl, rfl⟩)
          go_roundw
          case rel => exact ⟨2 + 1, by omega, rfl, HL2, trivial⟩
          case measure => simp [intOf]
    obtain rfl : k = 3 := by omega
    rw [show ((3 : Nat) : Int) = 3 from rfl] at hi
    subst hi
    have HLW := Lib.hid (show LowP s.lo from HL.out)
    clear HL h3 hk
    go_wp2_with fail
    have TY := Lib.hid (Tri.new wr s.lo 24)
    have FY := Lib.hid (free_alloc wr #[.int .i64 s.lo.a, .int .i64 s.lo.b, .int .i64 s.lo.c] 24 0)
    have b1 : Below x0 w (wr.alloc (.cells #[.int .i64 s.lo.a, .int .i64 s.lo.b, .int .i64 s.lo.c] 24)) := b0.alloc (Nat.le_of_lt s0) _
    have CA1 := Lib.hid (CA.out.below (bal (Below.refl _ wr) (.cells #[.int .i64 s.lo.a, .int .i64 s.lo.b, .int .i64 s.lo.c] 24)) s0)
    have sy : wr.heap.size < (wr.alloc (.cells #[.int .i64 s.lo.a, .int .i64 s.lo.b, .int .i64 s.lo.c] 24)).heap.size := by simp
    generalize wr.alloc (.cells #[.int .i64 s.lo.a, .int .i64 s.lo.b, .int .i64 s.lo.c] 24) = W1 at *
    obtain ⟨y, hy⟩ : ∃ y, y = wr.heap.size := ⟨_, rfl⟩
    rw [← hy] at TY FY sy s0 ⊢
    clear CA b0 t0 t1 t2 t3 t4 t5 t6 t7 t8 t9 hy
    go_loopw [22] (fun i wr => ∃ k : Nat, k ≤ s.ents.length ∧ i = .int .i64 k ∧ Hid (SideP s.lo s.ents k) ∧ Hid (Tri wr y (endsOf s.lo (s.ents.take k))) ∧ Hid (Free wr (some ⟨y, 0, none⟩)) ∧ Hid (Cells wr x0 0 [.int .i64 s.sq, .int .i64 s.fe, .slice A s.ents.length c, .slice A2 s.tmbs.length c2, .int .i64 s.lo.a, .int .i64 s.lo.b, .int .i64 s.lo.c, .int .i64 s.hi.a, .int .i64 s.hi.b, .int .i64 s.hi.c]) ∧ Hid (y < wr.heap.size) ∧ Below x0 w wr) (fun i _ => s.ents.length - (intOf i).toNat)
    case atStart => exact ⟨0, by omega, rfl, Lib.hid (fun k hk => by omega), TY, FY, CA1, Lib.hid sy, b1⟩
    case round =>
      clear TY FY CA1 sy b1
      obtain ⟨k, hk, rfl, HD, TY, FY, CA, HS, hb⟩ := hrel
      by_cases hlt : k < s.ents.length
      · obtain ⟨b1, o1, rfl, hb1, p0, p1, p2, p3⟩ := EntsAt.one (Sl.below H.out.1 hb (by have := Hx0.out; omega)) hlt
        have hfit := (Hf.out _ (List.getElem_mem hlt)).2.2.2
        have HSU := Lib.hid (fun (h1 : EntP s.ents[k]) (h2 : s.ents[k].beg = (endsOf s.lo (s.ents.take k)).at s.ents[k].tier) => HD.out.succ hlt h1 h2)
        have HNO := Lib.hid (fun (h : SidesP s) => h.2.1 k hlt hlt)
        have HES := Lib.hid (endsOf_succ s.lo s.ents k hlt)
        have hsy : y < wr.heap.size := HS.out
        have hxy : x0 < wr.heap.size := by omega
        generalize s.ents[k] = e at *
        go_wp2_with fail
        have q := EntsAt.one (w := wr.alloc (.cells #[.int .i64 e.tier, .int .i64 e.beg, .int .i64 e.fin, .string e.key] 103)) (B := wr.heap.size + 1) (A := some ⟨wr.heap.size, 0, none⟩) (xs := [e]) (fun _ => ⟨wr.heap.size, 0, rfl, by omega, fun i hi => by
          obtain rfl : i = 0 := by simpa using hi
          exact Cells.new wr e.vals _⟩) (k := 0) (by simp)
        obtain ⟨_, _, eq0, _, q0, q1, q2, q3⟩ := q
        injection eq0 with eq0
        injection eq0 with eq1 eq2
        subst eq1 eq2
        simp only [Nat.zero_mul, Nat.zero_add, List.getElem_cons_zero] at q0 q1 q2 q3
        have bA : Below x0 w (wr.alloc (.cells #[.int .i64 e.tier, .int .i64 e.beg, .int .i64 e.fin, .string e.key] 103)) := hb.alloc (Nat.le_of_lt hxy) _
        have bN : Below wr.heap.size wr (wr.alloc (.cells #[.int .i64 e.tier, .int .i64 e.beg, .int .i64 e.fin, .string e.key] 103)) := bal (Below.refl _ _) _
        have TYA := Lib.hid (TY.out.below bN hsy)
        have FYA := Lib.hid (FY.out.below bN (fun b e => by simp [blk] at e; omega))
        have CAA := Lib.hid (CA.out.below bN hxy)
        have sA : wr.heap.size < (wr.alloc (.cells #[.int .i64 e.tier, .int .i64 e.beg, .int .i64 e.fin, .string e.key] 103)).heap.size := by simp
        generalize wr.alloc (.cells #[.int .i64 e.tier, .int .i64 e.beg, .int .i64 e.fin, .string e.key] 103) = WA at *
        obtain ⟨z, hz0⟩ : ∃ z, z = wr.heap.size := ⟨_, rfl⟩
        rw [← hz0] at q0 q1 q2 q3 sA hsy hxy ⊢
        clear p0 p1 p2 p3 TY FY CA HS hb bN hb1 HD hz0
        by_cases he : EntP e
        rotate_left
        · have HE := Lib.hid he; have HK := Lib.hid hfit
          have HN := Lib.hid (show ¬ SidesP s from fun h => he (HNO.out h).1)
          clear he hfit
          refine wp_region_noPanic ?_
          refine wp_region_held_drew (S := (fun w' => w'.cell? ⟨z, 0, none⟩ = some (.int .i64 e.tier) ∧ w'.cell? ⟨z, 1, none⟩ = some (.int .i64 e.beg) ∧ w'.cell? ⟨z, 2, none⟩ = some (.int .i64 e.fin) ∧ w'.cell? ⟨z, 3, none⟩ = some (.string e.key))) (by kernel_rfl) (⟨q0, q1, q2, q3⟩) (fun hHeld => ?_)
          refine kT 0 ?_
          go_frame
          refine wpAnyH_ready (rs := [1]) (by kernel_rfl) (by simp) ?_
          refine AllReadyH.cons (o := { dst := some 27, op := Op.call { callee := Callee.value (Operand.func 91), args := #[Operand.tmp 26], argTypes := #[103] }, type := 4, pos := "l06_manifest.go:205", after := #[{ on := 0, ground := Ground.data }], guard := none }) rfl (fun K hK => ?_) AllReadyH.nil
          go_simp
          refine (entRight_b e false (by simp [HE.out]) _ (by have := HK.out; unfold maxLen at this; omega) (HP.out _ bA.drew).1 (HP.out _ bA.drew).2).mono ?_
          rintro e5 w5 ⟨rfl, hb5⟩
          go_wp2_with fail
          refine hK.out _ _ (⟨(hb5.cell (by exact sA)).trans q0, (hb5.cell (by exact sA)).trans q1, (hb5.cell (by exact sA)).trans q2, (hb5.cell (by exact sA)).trans q3⟩) (fun hHeld => ?_)
          clear hK K
          try simp only [Act.put, List.setIfInBounds_toArray, List.set_cons_zero, List.set_cons_succ]
          refine kT 2 ?_
          go_frame
          refine kT 3 ?_
          go_frame
          refine kS 4 ?_
          go_frame
          refine kS 5 ?_
          go_frame
          refine kS 6 ?_
          go_frame
          refine kS 7 ?_
          go_frame
          refine kS 8 ?_
          go_frame
          refine kS 9 ?_
          go_frame
          refine kS 10 ?_
          go_frame
          refine kT 11 ?_
          go_frame
          refine wpAnyH_done (by kernel_rfl) ?_ _
          refine NoPanic.normal ?_
          have b5 := bA.drew.trans (hb5.mono (by show x0 ≤ WA.heap.size; omega))
          clear hb5 q0 q1 q2 q3 hHeld
          go_wp2
          go_ret
          exact IsBB.no HN.out (by rw [Hx0.out]; exact b5)
        have ht := he.tier
        have HE := Lib.hid he; have HK := Lib.hid hfit
        clear he hfit
        obtain ⟨ti, bg, fi, ky⟩ := e
        dsimp only at *
        obtain ⟨j, rfl⟩ := Int.eq_ofNat_of_zero_le ht.1
        have hj3 : j < 3 := by omega
        have i1 : (0 : Int) ≤ (j : Int) := by omega
        have i2 : (j : Int) < 3 := by omega
        have q4 := tri_at TYA.out hj3
        by_cases hbg : bg = (endsOf s.lo (s.ents.take k)).at (j : Int)
        rotate_left
        · have HN := Lib.hid (show ¬ SidesP s from fun h => hbg (HNO.out h).2)
          have dn : (bg != (endsOf s.lo (s.ents.take k)).at (j : Int)) = true := by simpa using hbg
          have dn2 : (bg == (endsOf s.lo (s.ents.take k)).at (j : Int)) = false := by simpa using hbg
          clear hbg ht
          generalize (endsOf s.lo (s.ents.take k)).at (j : Int) = v at *
          refine wp_region_noPanic ?_
          refine wp_region_held_drew (S := (fun w' => w'.cell? ⟨z, 0, none⟩ = some (.int .i64 (j : Int)) ∧ w'.cell? ⟨z, 1, none⟩ = some (.int .i64 bg) ∧ w'.cell? ⟨z, 2, none⟩ = some (.int .i64 fi) ∧ w'.cell? ⟨z, 3, none⟩ = some (.string ky) ∧ w'.cell? ⟨y, j, none⟩ = some (.int .i64 (v)))) (by kernel_rfl) (⟨q0, q1, q2, q3, q4⟩) (fun hHeld => ?_)
          refine kT 0 ?_
          go_frame
          refine wpAnyH_ready (rs := [1]) (by kernel_rfl) (by simp) ?_
          refine AllReadyH.cons (o := { dst := some 27, op := Op.call { callee := Callee.value (Operand.func 91), args := #[Operand.tmp 26], argTypes := #[103] }, type := 4, pos := "l06_manifest.go:205", after := #[{ on := 0, ground := Ground.data }], guard := none }) rfl (fun K hK => ?_) AllReadyH.nil
          go_simp
          refine (entRight_b ⟨(j : Int), bg, fi, ky⟩ true (by simp [HE.out]) _ (by have := HK.out; unfold maxLen at this; omega) (HP.out _ bA.drew).1 (HP.out _ bA.drew).2).mono ?_
          rintro e5 w5 ⟨rfl, hb5⟩
          go_wp2_with fail
          refine hK.out _ _ (⟨(hb5.cell (by exact sA)).trans q0, (hb5.cell (by exact sA)).trans q1, (hb5.cell (by exact sA)).trans q2, (hb5.cell (by exact sA)).trans q3, (hb5.cell (p := ⟨y, j, none⟩) (by show y < WA.heap.size; omega)).trans q4⟩) (fun hHeld => ?_)
          clear hK K
          try simp only [Act.put, List.setIfInBounds_toArray, List.set_cons_zero, List.set_cons_succ]
          refine kT 2 ?_
          go_frame
          refine kT 3 ?_
          go_frame
          refine kT 4 ?_
          go_frame
          refine kT 5 ?_
          go_frame
          refine kT 6 ?_
          go_frame
          refine kT 7 ?_
          go_frame
          refine kT 8 ?_
          go_frame
          refine kT 9 ?_
          go_frame
          refine kT 10 ?_
          go_frame
          refine kT 11 ?_
          go_frame
          refine wpAnyH_done (by kernel_rfl) ?_ _
          refine NoPanic.normal ?_
          have b5 := bA.drew.trans (hb5.mono (by show x0 ≤ WA.heap.size; omega))
          clear hb5 q0 q1 q2 q3 q4 hHeld
          go_wp2
          go_ret
          exact IsBB.no HN.out (by rw [Hx0.out]; exact b5)
        have dn : (bg != (endsOf s.lo (s.ents.take k)).at (j : Int)) = false := by simpa using hbg
        have dn2 : (bg == (endsOf s.lo (s.ents.take k)).at (j : Int)) = true := by simpa using hbg
        have HSU2 := Lib.hid (HSU.out HE.out hbg)
        clear hbg ht HSU HNO
        have HV := Lib.hid (rfl : (endsOf s.lo (s.ents.take k)).at (j : Int) = (endsOf s.lo (s.ents.take k)).at (j : Int))
        generalize (endsOf s.lo (s.ents.take k)).at (j : Int) = v at *
        refine wp_region_noPanic ?_
        refine wp_region_held_drew (S := (fun w' => w'.cell? ⟨z, 0, none⟩ = some (.int .i64 (j : Int)) ∧ w'.cell? ⟨z, 1, none⟩ = some (.int .i64 bg) ∧ w'.cell? ⟨z, 2, none⟩ = some (.int .i64 fi) ∧ w'.cell? ⟨z, 3, none⟩ = some (.string ky) ∧ w'.cell? ⟨y, j, none⟩ = some (.int .i64 (v)))) (by kernel_rfl) (⟨q0, q1, q2, q3, q4⟩) (fun hHeld => ?_)
        refine kT 0 ?_
        go_frame
        refine wpAnyH_ready (rs := [1]) (by kernel_rfl) (by simp) ?_
        refine AllReadyH.cons (o := { dst := some 27, op := Op.call { callee := Callee.value (Operand.func 91), args := #[Operand.tmp 26], argTypes := #[103] }, type := 4, pos := "l06_manifest.go:205", after := #[{ on := 0, ground := Ground.data }], guard := none }) rfl (fun K hK => ?_) AllReadyH.nil
        go_simp
        refine (entRight_b ⟨(j : Int), bg, fi, ky⟩ true (by simp [HE.out]) _ (by have := HK.out; unfold maxLen at this; omega) (HP.out _ bA.drew).1 (HP.out _ bA.drew).2).mono ?_
        rintro e5 w5 ⟨rfl, hb5⟩
        go_wp2_with fail
        refine hK.out _ _ (⟨(hb5.cell (by exact sA)).trans q0, (hb5.cell (by exact sA)).trans q1, (hb5.cell (by exact sA)).trans q2, (hb5.cell (by exact sA)).trans q3, (hb5.cell (p := ⟨y, j, none⟩) (by show y < WA.heap.size; omega)).trans q4⟩) (fun hHeld => ?_)
        clear hK K
        try simp only [Act.put, List.setIfInBounds_toArray, List.set_cons_zero, List.set_cons_succ]
        refine kT 2 ?_
        go_frame
        refine kT 3 ?_
        go_frame
        refine kT 4 ?_
        go_frame
        refine kT 5 ?_
        go_frame
        refine kT 6 ?_
        go_frame
        refine kT 7 ?_
        go_frame
        refine kT 8 ?_
        go_frame
        refine kT 9 ?_
        go_frame
        refine kT 10 ?_
        go_frame
        refine kT 11 ?_
        go_frame
        refine wpAnyH_done (by kernel_rfl) ?_ _
        refine NoPanic.normal ?_
        have b5 := bA.drew.trans (hb5.mono (by show x0 ≤ WA.heap.size; omega))
        have hb5' : Below WA.heap.size WA w5 := (Below.refl _ _).drew.trans hb5
        have TY5 := Lib.hid (TYA.out.below hb5' (by omega))
        have FY5 := Lib.hid (FYA.out.below hb5' (fun b e => by simp [blk] at e; omega))
        have CA5 := Lib.hid (CAA.out.below hb5' (by omega))
        have s5 : z < w5.heap.size := Nat.lt_of_lt_of_le sA hb5'.size
        have r0 : w5.cell? ⟨z, 0, none⟩ = some (.int .i64 (j : Int)) := (hb5'.cell sA).trans q0
        have r2 : w5.cell? ⟨z, 2, none⟩ = some (.int .i64 fi) := (hb5'.cell sA).trans q2
        have r4 : w5.cell? ⟨y, j, none⟩ = some (.int .i64 v) := (hb5'.cell (p := ⟨y, j, none⟩) (by show y < _; omega)).trans q4
        have f4 : w5.frozen? ⟨y, j, none⟩ = false := FY5.out y rfl j
        have TN := Lib.hid (show Tri (w5.setCell ⟨y, j, none⟩ (.int .i64 fi)) y (endsOf s.lo (s.ents.take (k + 1))) by rw [HES.out]; exact tri_set TY5.out hj3 fi)
        have FN := Lib.hid (Free.setCell FY5.out ⟨y, j, none⟩ (.int .i64 fi))
        have CN := Lib.hid (CA5.out.far (p := ⟨y, j, none⟩) (by show x0 ≠ y; omega) (.int .i64 fi))
        have bNN : Below x0 w (w5.setCell ⟨y, j, none⟩ (.int .i64 fi)) := b5.setCell (by show x0 ≤ y; omega) _
        have sN : Hid (y < (w5.setCell ⟨y, j, none⟩ (.int .i64 fi)).heap.size) := Lib.hid (by rw [size_setCell]; omega)
        clear hb5 hb5' TYA FYA CAA bA b5 q0 q1 q2 q3 q4 TY5 FY5 CA5 hHeld dn dn2 HV
        go_wp2
        exact ⟨⟨k + 1, by omega, by go_num, HSU2, TN, FN, CN, sN, bNN⟩, by simp [intOf]; omega⟩
      · obtain rfl : k = s.ents.length := by omega
        obtain ⟨t0, t1, t2, t3, t4, t5, t6, t7, t8, t9⟩ := CA.out.ten
        obtain ⟨y0, y1, y2⟩ := TY.out
        have HI : Hid (SidesP s ↔ endsOf s.lo (s.ents.take s.ents.length) = s.hi) := Lib.hid (by
          rw [List.take_length]
          exact ⟨fun h => h.2.2, fun h => ⟨HLW.out, HD.out, h⟩⟩)
        have k2 := eq3 (endsOf s.lo (s.ents.take s.ents.length)) s.hi _ rfl
        generalize endsOf s.lo (s.ents.take s.ents.length) = V at *
        go_wp2
        go_ret
        exact ⟨_, by rw [HI.out]; simp, rfl, by rw [Hx0.out]; exact hb⟩

end Go.Proofs.YtpfanmcjlfdaiaaGreatDoorR

/- Contracts of the program's (State).right and StateOK: true just of a right state. Conditions: the program's table of paths is as its text lays it; lengths. -/
namespace Go.Proofs.YtpfanmcjlfdaiaaGreatDoorR
open Go.ChangeShapes Go.WideShapes Go.ChangeAt Go.RowKit Go.Deep Go.Joins Go.Maps
set_option linter.unusedVariables false
set_option linter.unusedSimpArgs false

theorem sideBySide_b (A : Option Addr) (c : Nat) (A2 : Option Addr) (c2 : Nat) (s : GSt) (B : Nat) (b : Bool) (hb : b = true ↔ SidesP s) (w : World) (h : StAt w B A A2 s) (hB : B ≤ w.heap.size) (hf : ∀ o ∈ s.ents, o.fit) (hl : s.ents.length ≤ 1048576) (hp : Paths w) (hz : 1 < w.heap.size) : Calls Tryz.prog 63 #[.agg #[.int .i64 s.sq, .int .i64 s.fe, .slice A s.ents.length c, .slice A2 s.tmbs.length c2, .int .i64 s.lo.a, .int .i64 s.lo.b, .int .i64 s.lo.c, .int .i64 s.hi.a, .int .i64 s.hi.b, .int .i64 s.hi.c]] w fun e w' => e = .returned (.bool b) ∧ Below w.heap.size w w' :=
  (sideBySide_any A c A2 c2 s B w h hB hf hl hp hz).mono fun e w' ⟨b', hb', he, hB⟩ => ⟨by rw [he, Bool.eq_iff_iff.2 (hb'.trans hb.symm)], hB⟩

theorem restsRight_b (A : Option Addr) (c : Nat) (A2 : Option Addr) (c2 : Nat) (s : GSt) (B : Nat) (b : Bool) (hb : b = true ↔ RestP s.sq s.tmbs s.tmbs.length) (w : World) (h : StAt w B A A2 s) (hB : B ≤ w.heap.size) (hf : ∀ o ∈ s.tmbs, o.fit) (hl2 : s.tmbs.length ≤ 1048576) (hp : Paths w) (hz : 1 < w.heap.size) : Calls Tryz.prog 64 #[.agg #[.int .i64 s.sq, .int .i64 s.fe, .slice A s.ents.length c, .slice A2 s.tmbs.length c2, .int .i64 s.lo.a, .int .i64 s.lo.b, .int .i64 s.lo.c, .int .i64 s.hi.a, .int .i64 s.hi.b, .int .i64 s.hi.c]] w fun e w' => e = .returned (.bool b) ∧ Below w.heap.size w w' :=
  (restsRight_any A c A2 c2 s B w h hB hf hl2 hp hz).mono fun e w' ⟨b', hb', he, hB⟩ => ⟨by rw [he, Bool.eq_iff_iff.2 (hb'.trans hb.symm)], hB⟩

set_option maxRecDepth 100000 in
set_option maxHeartbeats 8000000 in
theorem stRight_any (A : Option Addr) (c : Nat) (A2 : Option Addr) (c2 : Nat) (s : GSt) (B : Nat) (w : World) (h : StAt w B A A2 s) (hB : B ≤ w.heap.size) (hf : ∀ o ∈ s.ents, o.fit) (hf2 : ∀ o ∈ s.tmbs, o.fit) (hl : s.ents.length ≤ 1048576) (hl2 : s.tmbs.length ≤ 1048576) (hp : Paths w) (hz : 1 < w.heap.size) : Calls Tryz.prog 29 #[.agg #[.int .i64 s.sq, .int .i64 s.fe, .slice A s.ents.length c, .slice A2 s.tmbs.length c2, .int .i64 s.lo.a, .int .i64 s.lo.b, .int .i64 s.lo.c, .int .i64 s.hi.a, .int .i64 s.hi.b, .int .i64 s.hi.c]] w (IsBB (StP s) w) := by
  have H := Lib.hid h; clear h
  have Hf := Lib.hid hf; clear hf
  have Hf2 := Lib.hid hf2; clear hf2
  have HP : Hid (∀ w', Below w.heap.size w w' → Paths w' ∧ 1 < w'.heap.size) := Lib.hid (fun w' h => ⟨hp.below h hz, Nat.lt_of_lt_of_le hz h.size⟩)
  clear hp
  obtain ⟨n, hn⟩ : ∃ n : Int, n = ((s.ents.length + s.tmbs.length : Nat) : Int) := ⟨_, rfl⟩
  have hcs := fun W => stSize_any A c A2 c2 s W hl hl2
  rw [← hn] at hcs
  have HSZ := Lib.hid hcs; clear hcs
  have HNN := Lib.hid hn
  have hn4 : decide (n ≤ 4096) = decide (s.ents.length + s.tmbs.length ≤ 4096) := by rw [hn]; simp; omega
  clear hn
  go_enter Tryz.func29, Tryz.ntmps29
  go_wp2_with fail
  have CA : Hid (Cells (w.alloc (.cells #[.int .i64 s.sq, .int .i64 s.fe, .slice A s.ents.length c, .slice A2 s.tmbs.length c2, .int .i64 s.lo.a, .int .i64 s.lo.b, .int .i64 s.lo.c, .int .i64 s.hi.a, .int .i64 s.hi.b, .int .i64 s.hi.c] 34)) w.heap.size 0 [.int .i64 s.sq, .int .i64 s.fe, .slice A s.ents.length c, .slice A2 s.tmbs.length c2, .int .i64 s.lo.a, .int .i64 s.lo.b, .int .i64 s.lo.c, .int .i64 s.hi.a, .int .i64 s.hi.b, .int .i64 s.hi.c]) := Lib.hid (Cells.new w _ _)
  have b0 : Below w.heap.size w (w.alloc (.cells #[.int .i64 s.sq, .int .i64 s.fe, .slice A s.ents.length c, .slice A2 s.tmbs.length c2, .int .i64 s.lo.a, .int .i64 s.lo.b, .int .i64 s.lo.c, .int .i64 s.hi.a, .int .i64 s.hi.b, .int .i64 s.hi.c] 34)) := bal (Below.refl _ _) _
  have s0 : w.heap.size < (w.alloc (.cells #[.int .i64 s.sq, .int .i64 s.fe, .slice A s.ents.length c, .slice A2 s.tmbs.length c2, .int .i64 s.lo.a, .int .i64 s.lo.b, .int .i64 s.lo.c, .int .i64 s.hi.a, .int .i64 s.hi.b, .int .i64 s.hi.c] 34)).heap.size := by simp
  generalize w.alloc (.cells #[.int .i64 s.sq, .int .i64 s.fe, .slice A s.ents.length c, .slice A2 s.tmbs.length c2, .int .i64 s.lo.a, .int .i64 s.lo.b, .int .i64 s.lo.c, .int .i64 s.hi.a, .int .i64 s.hi.b, .int .i64 s.hi.c] 34) = W at *
  generalize hx0 : w.heap.size = x0 at *
  have Hx0 := Lib.hid hx0; clear hx0
  cases hq : inB s.sq 0 999999
  · have HN := Lib.hid (show ¬ StP s from fun h => by have := h.1; rw [hq] at this; cases this)
    have HQ := Lib.hid hq; clear hq
    refine wp_region_noPanic ?_
    refine wp_region_held_drew (S := (fun w' => w'.cell? ⟨x0, 0, none⟩ = some (.int .i64 s.sq) ∧ w'.cell? ⟨x0, 1, none⟩ = some (.int .i64 s.fe) ∧ w'.cell? ⟨x0, 2, none⟩ = some (.slice A s.ents.length c) ∧ w'.cell? ⟨x0, 3, none⟩ = some (.slice A2 s.tmbs.length c2) ∧ w'.cell? ⟨x0, 4, none⟩ = some (.int .i64 s.lo.a) ∧ w'.cell? ⟨x0, 5, none⟩ = some (.int .i64 s.lo.b) ∧ w'.cell? ⟨x0, 6, none⟩ = some (.int .i64 s.lo.c) ∧ w'.cell? ⟨x0, 7, none⟩ = some (.int .i64 s.hi.a) ∧ w'.cell? ⟨x0, 8, none⟩ = some (.int .i64 s.hi.b) ∧ w'.cell? ⟨x0, 9, none⟩ = some (.int .i64 s.hi.c))) (by kernel_rfl) (CA.out.ten) (fun hHeld => ?_)
    refine kT 0 ?_
    go_frame
    refine kT 1 ?_
    go_frame
    refine wpAnyH_ready (rs := [2]) (by kernel_rfl) (by simp) ?_
    refine AllReadyH.cons (o := { dst := some 5, op := Op.call { callee := Callee.value (Operand.func 62), args := #[Operand.tmp 4, Operand.const (Value.int IntKind.i64 0), Operand.const (Value.int IntKind.i64 999999)], argTypes := #[3, 3, 3] }, type := 4, pos := "l06_manifest.go:189", after := #[{ on := 1, ground := Ground.data }], guard := none }) rfl (fun K hK => ?_) AllReadyH.nil
    go_simp
    refine (within_b s.sq 0 999999 false (by simp [HQ.out]) _).mono ?_
    rintro e7 w7 ⟨rfl, rfl⟩
    go_wp2_with fail
    refine hK.out _ _ ((CA.out.below (Below.refl _ _).drew s0).ten) (fun hHeld => ?_)
    clear hK K
    try simp only [Act.put, List.setIfInBounds_toArray, List.set_cons_zero, List.set_cons_succ]
    refine kT 3 ?_
    go_frame
    refine kS 4 ?_
    go_frame
    refine kS 5 ?_
    go_frame
    refine wpAnyH_take (i := 6) (oi := { dst := some 9, op := Op.call { callee := Callee.value (Operand.func 62), args := #[Operand.tmp 8, Operand.const (Value.int IntKind.i64 0), Operand.const (Value.int IntKind.i64 999999)], argTypes := #[3, 3, 3] }, type := 4, pos := "l06_manifest.go:189", after := #[{ on := 5, ground := Ground.data }, { on := 3, ground := Ground.chain }, { on := 3, ground := Ground.guard }], guard := some (3, true) }) (v := undef) rfl (by kernel_rfl) (by kernel_rfl) (by kernel_rfl) (fun _ _ _ h => h) (Or.inr ⟨by rfl, rfl⟩) (by assumption) ?_
    try simp only [Act.put, List.setIfInBounds_toArray, List.set_cons_zero, List.set_cons_succ]
    refine kT 7 ?_
    go_frame
    refine kT 8 ?_
    go_frame
    refine kS 9 ?_
    go_frame
    refine wpAnyH_take (i := 10) (oi := { dst := some 13, op := Op.call { callee := Callee.value (Operand.func 31), args := #[Operand.tmp 12], argTypes := #[34] }, type := 3, pos := "l06_manifest.go:189", after := #[{ on := 9, ground := Ground.data }, { on := 8, ground := Ground.chain }, { on := 8, ground := Ground.guard }], guard := some (8, true) }) (v := undef) rfl (by kernel_rfl) (by kernel_rfl) (by kernel_rfl) (fun _ _ _ h => h) (Or.inr ⟨by rfl, rfl⟩) (by assumption) ?_
    try simp only [Act.put, List.setIfInBounds_toArray, List.set_cons_zero, List.set_cons_succ]
    refine kS 11 ?_
    go_frame
    refine kT 12 ?_
    go_frame
    refine kT 13 ?_
    go_frame
    refine kS 14 ?_
    go_frame
    refine wpAnyH_take (i := 15) (oi := { dst := some 18, op := Op.call { callee := Callee.value (Operand.func 63), args := #[Operand.tmp 17], argTypes := #[34] }, type := 4, pos := "l06_manifest.go:190", after := #[{ on := 14, ground := Ground.data }, { on := 13, ground := Ground.chain }, { on := 13, ground := Ground.guard }], guard := some (13, true) }) (v := undef) rfl (by kernel_rfl) (by kernel_rfl) (by kernel_rfl) (fun _ _ _ h => h) (Or.inr ⟨by rfl, rfl⟩) (by assumption) ?_
    try simp only [Act.put, List.setIfInBounds_toArray, List.set_cons_zero, List.set_cons_succ]
    refine kT 16 ?_
    go_frame
    refine kT 17 ?_
    go_frame
    refine kS 18 ?_
    go_frame
    refine wpAnyH_take (i := 19) (oi := { dst := some 22, op := Op.call { callee := Callee.value (Operand.func 64), args := #[Operand.tmp 21], argTypes := #[34] }, type := 4, pos := "l06_manifest.go:190", after := #[{ on := 18, ground := Ground.data }, { on := 17, ground := Ground.chain }, { on := 17, ground := Ground.guard }], guard := some (17, true) }) (v := undef) rfl (by kernel_rfl) (by kernel_rfl) (by kernel_rfl) (fun _ _ _ h => h) (Or.inr ⟨by rfl, rfl⟩) (by assumption) ?_
    try simp only [Act.put, List.setIfInBounds_toArray, List.set_cons_zero, List.set_cons_succ]
    refine kT 20 ?_
    go_frame
    refine kT 21 ?_
    go_frame
    refine kS 22 ?_
    go_frame
    refine wpAnyH_take (i := 23) (oi := { dst := some 26, op := Op.call { callee := Callee.value (Operand.func 65), args := #[Operand.tmp 25], argTypes := #[34] }, type := 71, pos := "l06_manifest.go:190", after := #[{ on := 22, ground := Ground.data }, { on := 21, ground := Ground.chain }, { on := 21, ground := Ground.guard }], guard := some (21, true) }) (v := undef) rfl (by kernel_rfl) (by kernel_rfl) (by kernel_rfl) (fun _ _ _ h => h) (Or.inr ⟨by rfl, rfl⟩) (by assumption) ?_
    try simp only [Act.put, List.setIfInBounds_toArray, List.set_cons_zero, List.set_cons_succ]
    refine wpAnyH_take (i := 24) (oi := { dst := some 27, op := Op.call { callee := Callee.builtin Builtin.len, args := #[Operand.tmp 26], argTypes := #[71] }, type := 3, pos := "l06_manifest.go:189", after := #[{ on := 23, ground := Ground.data }, { on := 23, ground := Ground.chain }, { on := 21, ground := Ground.guard }], guard := some (21, true) }) (v := undef) rfl (by kernel_rfl) (by kernel_rfl) (by kernel_rfl) (fun _ _ _ h => h) (Or.inr ⟨by rfl, rfl⟩) (by assumption) ?_
    try simp only [Act.put, List.setIfInBounds_toArray, List.set_cons_zero, List.set_cons_succ]
    refine kS 25 ?_
    go_frame
    refine wpAnyH_take (i := 26) (oi := { dst := some 29, op := Op.call { callee := Callee.value (Operand.func 31), args := #[Operand.tmp 28], argTypes := #[34] }, type := 3, pos := "l06_manifest.go:190", after := #[{ on := 25, ground := Ground.data }, { on := 24, ground := Ground.chain }, { on := 21, ground := Ground.guard }], guard := some (21, true) }) (v := undef) rfl (by kernel_rfl) (by kernel_rfl) (by kernel_rfl) (fun _ _ _ h => h) (Or.inr ⟨by rfl, rfl⟩) (by assumption) ?_
    try simp only [Act.put, List.setIfInBounds_toArray, List.set_cons_zero, List.set_cons_succ]
    refine kS 27 ?_
    go_frame
    refine kT 28 ?_
    go_frame
    refine kT 29 ?_
    go_frame
    refine wpAnyH_done (by kernel_rfl) ?_ _
    refine NoPanic.normal ?_
    have bF : Below x0 w _ := b0.drew
    clear hHeld
    go_wp2
    go_ret
    exact IsBB.no HN.out (by rw [Hx0.out]; exact bF)
  have HQ := Lib.hid hq; clear hq
  cases hfe : inB s.fe 0 999999
  · have HN := Lib.hid (show ¬ StP s from fun h => by have := h.2.1; rw [hfe] at this; cases this)
    have HFE := Lib.hid hfe; clear hfe
    refine wp_region_noPanic ?_
    refine wp_region_held_drew (S := (fun w' => w'.cell? ⟨x0, 0, none⟩ = some (.int .i64 s.sq) ∧ w'.cell? ⟨x0, 1, none⟩ = some (.int .i64 s.fe) ∧ w'.cell? ⟨x0, 2, none⟩ = some (.slice A s.ents.length c) ∧ w'.cell? ⟨x0, 3, none⟩ = some (.slice A2 s.tmbs.length c2) ∧ w'.cell? ⟨x0, 4, none⟩ = some (.int .i64 s.lo.a) ∧ w'.cell? ⟨x0, 5, none⟩ = some (.int .i64 s.lo.b) ∧ w'.cell? ⟨x0, 6, none⟩ = some (.int .i64 s.lo.c) ∧ w'.cell? ⟨x0, 7, none⟩ = some (.int .i64 s.hi.a) ∧ w'.cell? ⟨x0, 8, none⟩ = some (.int .i64 s.hi.b) ∧ w'.cell? ⟨x0, 9, none⟩ = some (.int .i64 s.hi.c))) (by kernel_rfl) (CA.out.ten) (fun hHeld => ?_)
    refine kT 0 ?_
    go_frame
    refine kT 1 ?_
    go_frame
    refine wpAnyH_ready (rs := [2]) (by kernel_rfl) (by simp) ?_
    refine AllReadyH.cons (o := { dst := some 5, op := Op.call { callee := Callee.value (Operand.func 62), args := #[Operand.tmp 4, Operand.const (Value.int IntKind.i64 0), Operand.const (Value.int IntKind.i64 999999)], argTypes := #[3, 3, 3] }, type := 4, pos := "l06_manifest.go:189", after := #[{ on := 1, ground := Ground.data }], guard := none }) rfl (fun K hK => ?_) AllReadyH.nil
    go_simp
    refine (within_b s.sq 0 999999 true (by simp [HQ.out]) _).mono ?_
    rintro e7 w7 ⟨rfl, rfl⟩
    go_wp2_with fail
    refine hK.out _ _ ((CA.out.below (Below.refl _ _).drew s0).ten) (fun hHeld => ?_)
    clear hK K
    try simp only [Act.put, List.setIfInBounds_toArray, List.set_cons_zero, List.set_cons_succ]
    refine kT 3 ?_
    go_frame
    refine kT 4 ?_
    go_frame
    refine kT 5 ?_
    go_frame
    refine wpAnyH_ready (rs := [6]) (by kernel_rfl) (by simp) ?_
    refine AllReadyH.cons (o := { dst := some 9, op := Op.call { callee := Callee.value (Operand.func 62), args := #[Operand.tmp 8, Operand.const (Value.int IntKind.i64 0), Operand.const (Value.int IntKind.i64 999999)], argTypes := #[3, 3, 3] }, type := 4, pos := "l06_manifest.go:189", after := #[{ on := 5, ground := Ground.data }, { on := 3, ground := Ground.chain }, { on := 3, ground := Ground.guard }], guard := some (3, true) }) rfl (fun K hK => ?_) AllReadyH.nil
    go_simp
    refine (within_b s.fe 0 999999 false (by simp [HFE.out]) _).mono ?_
    rintro e8 w8 ⟨rfl, rfl⟩
    go_wp2_with fail
    refine hK.out _ _ ((CA.out.below (Below.refl _ _).drew s0).ten) (fun hHeld => ?_)
    clear hK K
    try simp only [Act.put, List.setIfInBounds_toArray, List.set_cons_zero, List.set_cons_succ]
    refine kT 7 ?_
    go_frame
    refine kT 8 ?_
    go_frame
    refine kS 9 ?_
    go_frame
    refine wpAnyH_take (i := 10) (oi := { dst := some 13, op := Op.call { callee := Callee.value (Operand.func 31), args := #[Operand.tmp 12], argTypes := #[34] }, type := 3, pos := "l06_manifest.go:189", after := #[{ on := 9, ground := Ground.data }, { on := 8, ground := Ground.chain }, { on := 8, ground := Ground.guard }], guard := some (8, true) }) (v := undef) rfl (by kernel_rfl) (by kernel_rfl) (by kernel_rfl) (fun _ _ _ h => h) (Or.inr ⟨by rfl, rfl⟩) (by assumption) ?_
    try simp only [Act.put, List.setIfInBounds_toArray, List.set_cons_zero, List.set_cons_succ]
    refine kS 11 ?_
    go_frame
    refine kT 12 ?_
    go_frame
    refine kT 13 ?_
    go_frame
    refine kS 14 ?_
    go_frame
    refine wpAnyH_take (i := 15) (oi := { dst := some 18, op := Op.call { callee := Callee.value (Operand.func 63), args := #[Operand.tmp 17], argTypes := #[34] }, type := 4, pos := "l06_manifest.go:190", after := #[{ on := 14, ground := Ground.data }, { on := 13, ground := Ground.chain }, { on := 13, ground := Ground.guard }], guard := some (13, true) }) (v := undef) rfl (by kernel_rfl) (by kernel_rfl) (by kernel_rfl) (fun _ _ _ h => h) (Or.inr ⟨by rfl, rfl⟩) (by assumption) ?_
    try simp only [Act.put, List.setIfInBounds_toArray, List.set_cons_zero, List.set_cons_succ]
    refine kT 16 ?_
    go_frame
    refine kT 17 ?_
    go_frame
    refine kS 18 ?_
    go_frame
    refine wpAnyH_take (i := 19) (oi := { dst := some 22, op := Op.call { callee := Callee.value (Operand.func 64), args := #[Operand.tmp 21], argTypes := #[34] }, type := 4, pos := "l06_manifest.go:190", after := #[{ on := 18, ground := Ground.data }, { on := 17, ground := Ground.chain }, { on := 17, ground := Ground.guard }], guard := some (17, true) }) (v := undef) rfl (by kernel_rfl) (by kernel_rfl) (by kernel_rfl) (fun _ _ _ h => h) (Or.inr ⟨by rfl, rfl⟩) (by assumption) ?_
    try simp only [Act.put, List.setIfInBounds_toArray, List.set_cons_zero, List.set_cons_succ]
    refine kT 20 ?_
    go_frame
    refine kT 21 ?_
    go_frame
    refine kS 22 ?_
    go_frame
    refine wpAnyH_take (i := 23) (oi := { dst := some 26, op := Op.call { callee := Callee.value (Operand.func 65), args := #[Operand.tmp 25], argTypes := #[34] }, type := 71, pos := "l06_manifest.go:190", after := #[{ on := 22, ground := Ground.data }, { on := 21, ground := Ground.chain }, { on := 21, ground := Ground.guard }], guard := some (21, true) }) (v := undef) rfl (by kernel_rfl) (by kernel_rfl) (by kernel_rfl) (fun _ _ _ h => h) (Or.inr ⟨by rfl, rfl⟩) (by assumption) ?_
    try simp only [Act.put, List.setIfInBounds_toArray, List.set_cons_zero, List.set_cons_succ]
    refine wpAnyH_take (i := 24) (oi := { dst := some 27, op := Op.call { callee := Callee.builtin Builtin.len, args := #[Operand.tmp 26], argTypes := #[71] }, type := 3, pos := "l06_manifest.go:189", after := #[{ on := 23, ground := Ground.data }, { on := 23, ground := Ground.chain }, { on := 21, ground := Ground.guard }], guard := some (21, true) }) (v := undef) rfl (by kernel_rfl) (by kernel_rfl) (by kernel_rfl) (fun _ _ _ h => h) (Or.inr ⟨by rfl, rfl⟩) (by assumption) ?_
    try simp only [Act.put, List.setIfInBounds_toArray, List.set_cons_zero, List.set_cons_succ]
    refine kS 25 ?_
    go_frame
    refine wpAnyH_take (i := 26) (oi := { dst := some 29, op := Op.call { callee := Callee.value (Operand.func 31), args := #[Operand.tmp 28], argTypes := #[34] }, type := 3, pos := "l06_manifest.go:190", after := #[{ on := 25, ground := Ground.data }, { on := 24, ground := Ground.chain }, { on := 21, ground := Ground.guard }], guard := some (21, true) }) (v := undef) rfl (by kernel_rfl) (by kernel_rfl) (by kernel_rfl) (fun _ _ _ h => h) (Or.inr ⟨by rfl, rfl⟩) (by assumption) ?_
    try simp only [Act.put, List.setIfInBounds_toArray, List.set_cons_zero, List.set_cons_succ]
    refine kS 27 ?_
    go_frame
    refine kT 28 ?_
    go_frame
    refine kT 29 ?_
    go_frame
    refine wpAnyH_done (by kernel_rfl) ?_ _
    refine NoPanic.normal ?_
    have bF : Below x0 w _ := b0.drew
    clear hHeld
    go_wp2
    go_ret
    exact IsBB.no HN.out (by rw [Hx0.out]; exact bF)
  have HFE := Lib.hid hfe; clear hfe
  by_cases hsz : s.ents.length + s.tmbs.length ≤ 4096
  rotate_left
  · have HN := Lib.hid (show ¬ StP s from fun h => hsz h.2.2.1)
    have d4 : decide (n ≤ 4096) = false := by rw [hn4]; simpa using hsz
    clear hsz hn4
    refine wp_region_noPanic ?_
    refine wp_region_held_drew (S := (fun w' => w'.cell? ⟨x0, 0, none⟩ = some (.int .i64 s.sq) ∧ w'.cell? ⟨x0, 1, none⟩ = some (.int .i64 s.fe) ∧ w'.cell? ⟨x0, 2, none⟩ = some (.slice A s.ents.length c) ∧ w'.cell? ⟨x0, 3, none⟩ = some (.slice A2 s.tmbs.length c2) ∧ w'.cell? ⟨x0, 4, none⟩ = some (.int .i64 s.lo.a) ∧ w'.cell? ⟨x0, 5, none⟩ = some (.int .i64 s.lo.b) ∧ w'.cell? ⟨x0, 6, none⟩ = some (.int .i64 s.lo.c) ∧ w'.cell? ⟨x0, 7, none⟩ = some (.int .i64 s.hi.a) ∧ w'.cell? ⟨x0, 8, none⟩ = some (.int .i64 s.hi.b) ∧ w'.cell? ⟨x0, 9, none⟩ = some (.int .i64 s.hi.c))) (by kernel_rfl) (CA.out.ten) (fun hHeld => ?_)
    refine kT 0 ?_
    go_frame
    refine kT 1 ?_
    go_frame
    refine wpAnyH_ready (rs := [2]) (by kernel_rfl) (by simp) ?_
    refine AllReadyH.cons (o := { dst := some 5, op := Op.call { callee := Callee.value (Operand.func 62), args := #[Operand.tmp 4, Operand.const (Value.int IntKind.i64 0), Operand.const (Value.int IntKind.i64 999999)], argTypes := #[3, 3, 3] }, type := 4, pos := "l06_manifest.go:189", after := #[{ on := 1, ground := Ground.data }], guard := none }) rfl (fun K hK => ?_) AllReadyH.nil
    go_simp
    refine (within_b s.sq 0 999999 true (by simp [HQ.out]) _).mono ?_
    rintro e7 w7 ⟨rfl, rfl⟩
    go_wp2_with fail
    refine hK.out _ _ ((CA.out.below (Below.refl _ _).drew s0).ten) (fun hHeld => ?_)
    clear hK K
    try simp only [Act.put, List.setIfInBounds_toArray, List.set_cons_zero, List.set_cons_succ]
    refine kT 3 ?_
    go_frame
    refine kT 4 ?_
    go_frame
    refine kT 5 ?_
    go_frame
    refine wpAnyH_ready (rs := [6]) (by kernel_rfl) (by simp) ?_
    refine AllReadyH.cons (o := { dst := some 9, op := Op.call { callee := Callee.value (Operand.func 62), args := #[Operand.tmp 8, Operand.const (Value.int IntKind.i64 0), Operand.const (Value.int IntKind.i64 999999)], argTypes := #[3, 3, 3] }, type := 4, pos := "l06_manifest.go:189", after := #[{ on := 5, ground := Ground.data }, { on := 3, ground := Ground.chain }, { on := 3, ground := Ground.guard }], guard := some (3, true) }) rfl (fun K hK => ?_) AllReadyH.nil
    go_simp
    refine (within_b s.fe 0 999999 true (by simp [HFE.out]) _).mono ?_
    rintro e8 w8 ⟨rfl, rfl⟩
    go_wp2_with fail
    refine hK.out _ _ ((CA.out.below (Below.refl _ _).drew s0).ten) (fun hHeld => ?_)
    clear hK K
    try simp only [Act.put, List.setIfInBounds_toArray, List.set_cons_zero, List.set_cons_succ]
    refine kT 7 ?_
    go_frame
    refine kT 8 ?_
    go_frame
    refine kT 9 ?_
    go_frame
    refine wpAnyH_ready (rs := [10]) (by kernel_rfl) (by simp) ?_
    refine AllReadyH.cons (o := { dst := some 13, op := Op.call { callee := Callee.value (Operand.func 31), args := #[Operand.tmp 12], argTypes := #[34] }, type := 3, pos := "l06_manifest.go:189", after := #[{ on := 9, ground := Ground.data }, { on := 8, ground := Ground.chain }, { on := 8, ground := Ground.guard }], guard := some (8, true) }) rfl (fun K hK => ?_) AllReadyH.nil
    go_simp
    refine (HSZ.out _).mono ?_
    rintro e9 w9 ⟨rfl, hb9⟩
    have b9 : Below W.heap.size W w9 := (Below.refl _ _).drew.trans hb9
    have s9 : x0 < w9.heap.size := Nat.lt_of_lt_of_le s0 b9.size
    go_wp2_with fail
    refine hK.out _ _ ((CA.out.below b9 s0).ten) (fun hHeld => ?_)
    clear hK K
    try simp only [Act.put, List.setIfInBounds_toArray, List.set_cons_zero, List.set_cons_succ]
    refine kT 11 ?_
    go_frame
    refine kT 12 ?_
    go_frame
    refine kT 13 ?_
    go_frame
    refine kS 14 ?_
    go_frame
    refine wpAnyH_take (i := 15) (oi := { dst := some 18, op := Op.call { callee := Callee.value (Operand.func 63), args := #[Operand.tmp 17], argTypes := #[34] }, type := 4, pos := "l06_manifest.go:190", after := #[{ on := 14, ground := Ground.data }, { on := 13, ground := Ground.chain }, { on := 13, ground := Ground.guard }], guard := some (13, true) }) (v := undef) rfl (by kernel_rfl) (by kernel_rfl) (by kernel_rfl) (fun _ _ _ h => h) (Or.inr ⟨by rfl, rfl⟩) (by assumption) ?_
    try simp only [Act.put, List.setIfInBounds_toArray, List.set_cons_zero, List.set_cons_succ]
    refine kT 16 ?_
    go_frame
    refine kT 17 ?_
    go_frame
    refine kS 18 ?_
    go_frame
    refine wpAnyH_take (i := 19) (oi := { dst := some 22, op := Op.call { callee := Callee.value (Operand.func 64), args := #[Operand.tmp 21], argTypes := #[34] }, type := 4, pos := "l06_manifest.go:190", after := #[{ on := 18, ground := Ground.data }, { on := 17, ground := Ground.chain }, { on := 17, ground := Ground.guard }], guard := some (17, true) }) (v := undef) rfl (by kernel_rfl) (by kernel_rfl) (by kernel_rfl) (fun _ _ _ h => h) (Or.inr ⟨by rfl, rfl⟩) (by assumption) ?_
    try simp only [Act.put, List.setIfInBounds_toArray, List.set_cons_zero, List.set_cons_succ]
    refine kT 20 ?_
    go_frame
    refine kT 21 ?_
    go_frame
    refine kS 22 ?_
    go_frame
    refine wpAnyH_take (i := 23) (oi := { dst := some 26, op := Op.call { callee := Callee.value (Operand.func 65), args := #[Operand.tmp 25], argTypes := #[34] }, type := 71, pos := "l06_manifest.go:190", after := #[{ on := 22, ground := Ground.data }, { on := 21, ground := Ground.chain }, { on := 21, ground := Ground.guard }], guard := some (21, true) }) (v := undef) rfl (by kernel_rfl) (by kernel_rfl) (by kernel_rfl) (fun _ _ _ h => h) (Or.inr ⟨by rfl, rfl⟩) (by assumption) ?_
    try simp only [Act.put, List.setIfInBounds_toArray, List.set_cons_zero, List.set_cons_succ]
    refine wpAnyH_take (i := 24) (oi := { dst := some 27, op := Op.call { callee := Callee.builtin Builtin.len, args := #[Operand.tmp 26], argTypes := #[71] }, type := 3, pos := "l06_manifest.go:189", after := #[{ on := 23, ground := Ground.data }, { on := 23, ground := Ground.chain }, { on := 21, ground := Ground.guard }], guard := some (21, true) }) (v := undef) rfl (by kernel_rfl) (by kernel_rfl) (by kernel_rfl) (fun _ _ _ h => h) (Or.inr ⟨by rfl, rfl⟩) (by assumption) ?_
    try simp only [Act.put, List.setIfInBounds_toArray, List.set_cons_zero, List.set_cons_succ]
    refine kS 25 ?_
    go_frame
    refine wpAnyH_take (i := 26) (oi := { dst := some 29, op := Op.call { callee := Callee.value (Operand.func 31), args := #[Operand.tmp 28], argTypes := #[34] }, type := 3, pos := "l06_manifest.go:190", after := #[{ on := 25, ground := Ground.data }, { on := 24, ground := Ground.chain }, { on := 21, ground := Ground.guard }], guard := some (21, true) }) (v := undef) rfl (by kernel_rfl) (by kernel_rfl) (by kernel_rfl) (fun _ _ _ h => h) (Or.inr ⟨by rfl, rfl⟩) (by assumption) ?_
    try simp only [Act.put, List.setIfInBounds_toArray, List.set_cons_zero, List.set_cons_succ]
    refine kS 27 ?_
    go_frame
    refine kT 28 ?_
    go_frame
    refine kT 29 ?_
    go_frame
    refine wpAnyH_done (by kernel_rfl) ?_ _
    refine NoPanic.normal ?_
    have bF : Below x0 w _ := b0.trans (b9.mono (by omega))
    clear hHeld
    go_wp2
    go_ret
    exact IsBB.no HN.out (by rw [Hx0.out]; exact bF)
  have d4 : decide (n ≤ 4096) = true := by rw [hn4]; simpa using hsz
  have HSS := Lib.hid hsz
  clear hsz hn4
  by_cases hsi : SidesP s
  rotate_left
  · have HN := Lib.hid (show ¬ StP s from fun h => hsi h.2.2.2.1)
    have HSI := Lib.hid hsi; clear hsi
    refine wp_region_noPanic ?_
    refine wp_region_held_drew (S := (fun w' => w'.cell? ⟨x0, 0, none⟩ = some (.int .i64 s.sq) ∧ w'.cell? ⟨x0, 1, none⟩ = some (.int .i64 s.fe) ∧ w'.cell? ⟨x0, 2, none⟩ = some (.slice A s.ents.length c) ∧ w'.cell? ⟨x0, 3, none⟩ = some (.slice A2 s.tmbs.length c2) ∧ w'.cell? ⟨x0, 4, none⟩ = some (.int .i64 s.lo.a) ∧ w'.cell? ⟨x0, 5, none⟩ = some (.int .i64 s.lo.b) ∧ w'.cell? ⟨x0, 6, none⟩ = some (.int .i64 s.lo.c) ∧ w'.cell? ⟨x0, 7, none⟩ = some (.int .i64 s.hi.a) ∧ w'.cell? ⟨x0, 8, none⟩ = some (.int .i64 s.hi.b) ∧ w'.cell? ⟨x0, 9, none⟩ = some (.int .i64 s.hi.c))) (by kernel_rfl) (CA.out.ten) (fun hHeld => ?_)
    refine kT 0 ?_
    go_frame
    refine kT 1 ?_
    go_frame
    refine wpAnyH_ready (rs := [2]) (by kernel_rfl) (by simp) ?_
    refine AllReadyH.cons (o := { dst := some 5, op := Op.call { callee := Callee.value (Operand.func 62), args := #[Operand.tmp 4, Operand.const (Value.int IntKind.i64 0), Operand.const (Value.int IntKind.i64 999999)], argTypes := #[3, 3, 3] }, type := 4, pos := "l06_manifest.go:189", after := #[{ on := 1, ground := Ground.data }], guard := none }) rfl (fun K hK => ?_) AllReadyH.nil
    go_simp
    refine (within_b s.sq 0 999999 true (by simp [HQ.out]) _).mono ?_
    rintro e7 w7 ⟨rfl, rfl⟩
    go_wp2_with fail
    refine hK.out _ _ ((CA.out.below (Below.refl _ _).drew s0).ten) (fun hHeld => ?_)
    clear hK K
    try simp only [Act.put, List.setIfInBounds_toArray, List.set_cons_zero, List.set_cons_succ]
    refine kT 3 ?_
    go_frame
    refine kT 4 ?_
    go_frame
    refine kT 5 ?_
    go_frame
    refine wpAnyH_ready (rs := [6]) (by kernel_rfl) (by simp) ?_
    refine AllReadyH.cons (o := { dst := some 9, op := Op.call { callee := Callee.value (Operand.func 62), args := #[Operand.tmp 8, Operand.const (Value.int IntKind.i64 0), Operand.const (Value.int IntKind.i64 999999)], argTypes := #[3, 3, 3] }, type := 4, pos := "l06_manifest.go:189", after := #[{ on := 5, ground := Ground.data }, { on := 3, ground := Ground.chain }, { on := 3, ground := Ground.guard }], guard := some (3, true) }) rfl (fun K hK => ?_) AllReadyH.nil
    go_simp
    refine (within_b s.fe 0 999999 true (by simp [HFE.out]) _).mono ?_
    rintro e8 w8 ⟨rfl, rfl⟩
    go_wp2_with fail
    refine hK.out _ _ ((CA.out.below (Below.refl _ _).drew s0).ten) (fun hHeld => ?_)
    clear hK K
    try simp only [Act.put, List.setIfInBounds_toArray, List.set_cons_zero, List.set_cons_succ]
    refine kT 7 ?_
    go_frame
    refine kT 8 ?_
    go_frame
    refine kT 9 ?_
    go_frame
    refine wpAnyH_ready (rs := [10]) (by kernel_rfl) (by simp) ?_
    refine AllReadyH.cons (o := { dst := some 13, op := Op.call { callee := Callee.value (Operand.func 31), args := #[Operand.tmp 12], argTypes := #[34] }, type := 3, pos := "l06_manifest.go:189", after := #[{ on := 9, ground := Ground.data }, { on := 8, ground := Ground.chain }, { on := 8, ground := Ground.guard }], guard := some (8, true) }) rfl (fun K hK => ?_) AllReadyH.nil
    go_simp
    refine (HSZ.out _).mono ?_
    rintro e9 w9 ⟨rfl, hb9⟩
    have b9 : Below W.heap.size W w9 := (Below.refl _ _).drew.trans hb9
    have s9 : x0 < w9.heap.size := Nat.lt_of_lt_of_le s0 b9.size
    go_wp2_with fail
    refine hK.out _ _ ((CA.out.below b9 s0).ten) (fun hHeld => ?_)
    clear hK K
    try simp only [Act.put, List.setIfInBounds_toArray, List.set_cons_zero, List.set_cons_succ]
    refine kT 11 ?_
    go_frame
    refine kT 12 ?_
    go_frame
    refine kT 13 ?_
    go_frame
    refine kT 14 ?_
    go_frame
    refine wpAnyH_ready (rs := [15]) (by kernel_rfl) (by simp) ?_
    refine AllReadyH.cons (o := { dst := some 18, op := Op.call { callee := Callee.value (Operand.func 63), args := #[Operand.tmp 17], argTypes := #[34] }, type := 4, pos := "l06_manifest.go:190", after := #[{ on := 14, ground := Ground.data }, { on := 13, ground := Ground.chain }, { on := 13, ground := Ground.guard }], guard := some (13, true) }) rfl (fun K hK => ?_) AllReadyH.nil
    go_simp
    refine (sideBySide_b A c A2 c2 s B false (by simp [HSI.out]) w9 (H.out.below (b0.trans (b9.mono (by omega))) (by omega)) (by omega) Hf.out hl (HP.out _ (b0.trans (b9.mono (by omega)))).1 (HP.out _ (b0.trans (b9.mono (by omega)))).2).mono ?_
    rintro e10 w10 ⟨rfl, hb10⟩
    have b10 : Below W.heap.size W w10 := b9.trans (hb10.mono b9.size)
    have s10 : x0 < w10.heap.size := Nat.lt_of_lt_of_le s0 b10.size
    go_wp2_with fail
    refine hK.out _ _ ((CA.out.below b10 s0).ten) (fun hHeld => ?_)
    clear hK K
    try simp only [Act.put, List.setIfInBounds_toArray, List.set_cons_zero, List.set_cons_succ]
    refine kT 16 ?_
    go_frame
    refine kT 17 ?_
    go_frame
    refine kS 18 ?_
    go_frame
    refine wpAnyH_take (i := 19) (oi := { dst := some 22, op := Op.call { callee := Callee.value (Operand.func 64), args := #[Operand.tmp 21], argTypes := #[34] }, type := 4, pos := "l06_manifest.go:190", after := #[{ on := 18, ground := Ground.data }, { on := 17, ground := Ground.chain }, { on := 17, ground := Ground.guard }], guard := some (17, true) }) (v := undef) rfl (by kernel_rfl) (by kernel_rfl) (by kernel_rfl) (fun _ _ _ h => h) (Or.inr ⟨by rfl, rfl⟩) (by assumption) ?_
    try simp only [Act.put, List.setIfInBounds_toArray, List.set_cons_zero, List.set_cons_succ]
    refine kT 20 ?_
    go_frame
    refine kT 21 ?_
    go_frame
    refine kS 22 ?_
    go_frame
    refine wpAnyH_take (i := 23) (oi := { dst := some 26, op := Op.call { callee := Callee.value (Operand.func 65), args := #[Operand.tmp 25], argTypes := #[34] }, type := 71, pos := "l06_manifest.go:190", after := #[{ on := 22, ground := Ground.data }, { on := 21, ground := Ground.chain }, { on := 21, ground := Ground.guard }], guard := some (21, true) }) (v := undef) rfl (by kernel_rfl) (by kernel_rfl) (by kernel_rfl) (fun _ _ _ h => h) (Or.inr ⟨by rfl, rfl⟩) (by assumption) ?_
    try simp only [Act.put, List.setIfInBounds_toArray, List.set_cons_zero, List.set_cons_succ]
    refine wpAnyH_take (i := 24) (oi := { dst := some 27, op := Op.call { callee := Callee.builtin Builtin.len, args := #[Operand.tmp 26], argTypes := #[71] }, type := 3, pos := "l06_manifest.go:189", after := #[{ on := 23, ground := Ground.data }, { on := 23, ground := Ground.chain }, { on := 21, ground := Ground.guard }], guard := some (21, true) }) (v := undef) rfl (by kernel_rfl) (by kernel_rfl) (by kernel_rfl) (fun _ _ _ h => h) (Or.inr ⟨by rfl, rfl⟩) (by assumption) ?_
    try simp only [Act.put, List.setIfInBounds_toArray, List.set_cons_zero, List.set_cons_succ]
    refine kS 25 ?_
    go_frame
    refine wpAnyH_take (i := 26) (oi := { dst := some 29, op := Op.call { callee := Callee.value (Operand.func 31), args := #[Operand.tmp 28], argTypes := #[34] }, type := 3, pos := "l06_manifest.go:190", after := #[{ on := 25, ground := Ground.data }, { on := 24, ground := Ground.chain }, { on := 21, ground := Ground.guard }], guard := some (21, true) }) (v := undef) rfl (by kernel_rfl) (by kernel_rfl) (by kernel_rfl) (fun _ _ _ h => h) (Or.inr ⟨by rfl, rfl⟩) (by assumption) ?_
    try simp only [Act.put, List.setIfInBounds_toArray, List.set_cons_zero, List.set_cons_succ]
    refine kS 27 ?_
    go_frame
    refine kT 28 ?_
    go_frame
    refine kT 29 ?_
    go_frame
    refine wpAnyH_done (by kernel_rfl) ?_ _
    refine NoPanic.normal ?_
    have bF : Below x0 w _ := b0.trans (b10.mono (by omega))
    clear hHeld
    go_wp2
    go_ret
    exact IsBB.no HN.out (by rw [Hx0.out]; exact bF)
  have HSI := Lib.hid hsi; clear hsi
  by_cases hre : RestP s.sq s.tmbs s.tmbs.length
  rotate_left
  · have HN := Lib.hid (show ¬ StP s from fun h => hre h.2.2.2.2.1)
    have HRE := Lib.hid hre; clear hre
    refine wp_region_noPanic ?_
    refine wp_region_held_drew (S := (fun w' => w'.cell? ⟨x0, 0, none⟩ = some (.int .i64 s.sq) ∧ w'.cell? ⟨x0, 1, none⟩ = some (.int .i64 s.fe) ∧ w'.cell? ⟨x0, 2, none⟩ = some (.slice A s.ents.length c) ∧ w'.cell? ⟨x0, 3, none⟩ = some (.slice A2 s.tmbs.length c2) ∧ w'.cell? ⟨x0, 4, none⟩ = some (.int .i64 s.lo.a) ∧ w'.cell? ⟨x0, 5, none⟩ = some (.int .i64 s.lo.b) ∧ w'.cell? ⟨x0, 6, none⟩ = some (.int .i64 s.lo.c) ∧ w'.cell? ⟨x0, 7, none⟩ = some (.int .i64 s.hi.a) ∧ w'.cell? ⟨x0, 8, none⟩ = some (.int .i64 s.hi.b) ∧ w'.cell? ⟨x0, 9, none⟩ = some (.int .i64 s.hi.c))) (by kernel_rfl) (CA.out.ten) (fun hHeld => ?_)
    refine kT 0 ?_
    go_frame
    refine kT 1 ?_
    go_frame
    refine wpAnyH_ready (rs := [2]) (by kernel_rfl) (by simp) ?_
    refine AllReadyH.cons (o := { dst := some 5, op := Op.call { callee := Callee.value (Operand.func 62), args := #[Operand.tmp 4, Operand.const (Value.int IntKind.i64 0), Operand.const (Value.int IntKind.i64 999999)], argTypes := #[3, 3, 3] }, type := 4, pos := "l06_manifest.go:189", after := #[{ on := 1, ground := Ground.data }], guard := none }) rfl (fun K hK => ?_) AllReadyH.nil
    go_simp
    refine (within_b s.sq 0 999999 true (by simp [HQ.out]) _).mono ?_
    rintro e7 w7 ⟨rfl, rfl⟩
    go_wp2_with fail
    refine hK.out _ _ ((CA.out.below (Below.refl _ _).drew s0).ten) (fun hHeld => ?_)
    clear hK K
    try simp only [Act.put, List.setIfInBounds_toArray, List.set_cons_zero, List.set_cons_succ]
    refine kT 3 ?_
    go_frame
    refine kT 4 ?_
    go_frame
    refine kT 5 ?_
    go_frame
    refine wpAnyH_ready (rs := [6]) (by kernel_rfl) (by simp) ?_
    refine AllReadyH.cons (o := { dst := some 9, op := Op.call { callee := Callee.value (Operand.func 62), args := #[Operand.tmp 8, Operand.const (Value.int IntKind.i64 0), Operand.const (Value.int IntKind.i64 999999)], argTypes := #[3, 3, 3] }, type := 4, pos := "l06_manifest.go:189", after := #[{ on := 5, ground := Ground.data }, { on := 3, ground := Ground.chain }, { on := 3, ground := Ground.guard }], guard := some (3, true) }) rfl (fun K hK => ?_) AllReadyH.nil
    go_simp
    refine (within_b s.fe 0 999999 true (by simp [HFE.out]) _).mono ?_
    rintro e8 w8 ⟨rfl, rfl⟩
    go_wp2_with fail
    refine hK.out _ _ ((CA.out.below (Below.refl _ _).drew s0).ten) (fun hHeld => ?_)
    clear hK K
    try simp only [Act.put, List.setIfInBounds_toArray, List.set_cons_zero, List.set_cons_succ]
    refine kT 7 ?_
    go_frame
    refine kT 8 ?_
    go_frame
    refine kT 9 ?_
    go_frame
    refine wpAnyH_ready (rs := [10]) (by kernel_rfl) (by simp) ?_
    refine AllReadyH.cons (o := { dst := some 13, op := Op.call { callee := Callee.value (Operand.func 31), args := #[Operand.tmp 12], argTypes := #[34] }, type := 3, pos := "l06_manifest.go:189", after := #[{ on := 9, ground := Ground.data }, { on := 8, ground := Ground.chain }, { on := 8, ground := Ground.guard }], guard := some (8, true) }) rfl (fun K hK => ?_) AllReadyH.nil
    go_simp
    refine (HSZ.out _).mono ?_
    rintro e9 w9 ⟨rfl, hb9⟩
    have b9 : Below W.heap.size W w9 := (Below.refl _ _).drew.trans hb9
    have s9 : x0 < w9.heap.size := Nat.lt_of_lt_of_le s0 b9.size
    go_wp2_with fail
    refine hK.out _ _ ((CA.out.below b9 s0).ten) (fun hHeld => ?_)
    clear hK K
    try simp only [Act.put, List.setIfInBounds_toArray, List.set_cons_zero, List.set_cons_succ]
    refine kT 11 ?_
    go_frame
    refine kT 12 ?_
    go_frame
    refine kT 13 ?_
    go_frame
    refine kT 14 ?_
    go_frame
    refine wpAnyH_ready (rs := [15]) (by kernel_rfl) (by simp) ?_
    refine AllReadyH.cons (o := { dst := some 18, op := Op.call { callee := Callee.value (Operand.func 63), args := #[Operand.tmp 17], argTypes := #[34] }, type := 4, pos := "l06_manifest.go:190", after := #[{ on := 14, ground := Ground.data }, { on := 13, ground := Ground.chain }, { on := 13, ground := Ground.guard }], guard := some (13, true) }) rfl (fun K hK => ?_) AllReadyH.nil
    go_simp
    refine (sideBySide_b A c A2 c2 s B true (by simp [HSI.out]) w9 (H.out.below (b0.trans (b9.mono (by omega))) (by omega)) (by omega) Hf.out hl (HP.out _ (b0.trans (b9.mono (by omega)))).1 (HP.out _ (b0.trans (b9.mono (by omega)))).2).mono ?_
    rintro e10 w10 ⟨rfl, hb10⟩
    have b10 : Below W.heap.size W w10 := b9.trans (hb10.mono b9.size)
    have s10 : x0 < w10.heap.size := Nat.lt_of_lt_of_le s0 b10.size
    go_wp2_with fail
    refine hK.out _ _ ((CA.out.below b10 s0).ten) (fun hHeld => ?_)
    clear hK K
    try simp only [Act.put, List.setIfInBounds_toArray, List.set_cons_zero, List.set_cons_succ]
    refine kT 16 ?_
    go_frame
    refine kT 17 ?_
    go_frame
    refine kT 18 ?_
    go_frame
    refine wpAnyH_ready (rs := [19]) (by kernel_rfl) (by simp) ?_
    refine AllReadyH.cons (o := { dst := some 22, op := Op.call { callee := Callee.value (Operand.func 64), args := #[Operand.tmp 21], argTypes := #[34] }, type := 4, pos := "l06_manifest.go:190", after := #[{ on := 18, ground := Ground.data }, { on := 17, ground := Ground.chain }, { on := 17, ground := Ground.guard }], guard := some (17, true) }) rfl (fun K hK => ?_) AllReadyH.nil
    go_simp
    refine (restsRight_b A c A2 c2 s B false (by simp [HRE.out]) w10 (H.out.below (b0.trans (b10.mono (by omega))) (by omega)) (by omega) Hf2.out hl2 (HP.out _ (b0.trans (b10.mono (by omega)))).1 (HP.out _ (b0.trans (b10.mono (by omega)))).2).mono ?_
    rintro e11 w11 ⟨rfl, hb11⟩
    have b11 : Below W.heap.size W w11 := b10.trans (hb11.mono b10.size)
    have s11 : x0 < w11.heap.size := Nat.lt_of_lt_of_le s0 b11.size
    go_wp2_with fail
    refine hK.out _ _ ((CA.out.below b11 s0).ten) (fun hHeld => ?_)
    clear hK K
    try simp only [Act.put, List.setIfInBounds_toArray, List.set_cons_zero, List.set_cons_succ]
    refine kT 20 ?_
    go_frame
    refine kT 21 ?_
    go_frame
    refine kS 22 ?_
    go_frame
    refine wpAnyH_take (i := 23) (oi := { dst := some 26, op := Op.call { callee := Callee.value (Operand.func 65), args := #[Operand.tmp 25], argTypes := #[34] }, type := 71, pos := "l06_manifest.go:190", after := #[{ on := 22, ground := Ground.data }, { on := 21, ground := Ground.chain }, { on := 21, ground := Ground.guard }], guard := some (21, true) }) (v := undef) rfl (by kernel_rfl) (by kernel_rfl) (by kernel_rfl) (fun _ _ _ h => h) (Or.inr ⟨by rfl, rfl⟩) (by assumption) ?_
    try simp only [Act.put, List.setIfInBounds_toArray, List.set_cons_zero, List.set_cons_succ]
    refine wpAnyH_take (i := 24) (oi := { dst := some 27, op := Op.call { callee := Callee.builtin Builtin.len, args := #[Operand.tmp 26], argTypes := #[71] }, type := 3, pos := "l06_manifest.go:189", after := #[{ on := 23, ground := Ground.data }, { on := 23, ground := Ground.chain }, { on := 21, ground := Ground.guard }], guard := some (21, true) }) (v := undef) rfl (by kernel_rfl) (by kernel_rfl) (by kernel_rfl) (fun _ _ _ h => h) (Or.inr ⟨by rfl, rfl⟩) (by assumption) ?_
    try simp only [Act.put, List.setIfInBounds_toArray, List.set_cons_zero, List.set_cons_succ]
    refine kS 25 ?_
    go_frame
    refine wpAnyH_take (i := 26) (oi := { dst := some 29, op := Op.call { callee := Callee.value (Operand.func 31), args := #[Operand.tmp 28], argTypes := #[34] }, type := 3, pos := "l06_manifest.go:190", after := #[{ on := 25, ground := Ground.data }, { on := 24, ground := Ground.chain }, { on := 21, ground := Ground.guard }], guard := some (21, true) }) (v := undef) rfl (by kernel_rfl) (by kernel_rfl) (by kernel_rfl) (fun _ _ _ h => h) (Or.inr ⟨by rfl, rfl⟩) (by assumption) ?_
    try simp only [Act.put, List.setIfInBounds_toArray, List.set_cons_zero, List.set_cons_succ]
    refine kS 27 ?_
    go_frame
    refine kT 28 ?_
    go_frame
    refine kT 29 ?_
    go_frame
    refine wpAnyH_done (by kernel_rfl) ?_ _
    refine NoPanic.normal ?_
    have bF : Below x0 w _ := b0.trans (b11.mono (by omega))
    clear hHeld
    go_wp2
    go_ret
    exact IsBB.no HN.out (by rw [Hx0.out]; exact bF)
  have HRE := Lib.hid hre; clear hre
  have HI := Lib.hid (show StP s ↔ keysN s from ⟨fun h => h.2.2.2.2.2, fun h => ⟨HQ.out, HFE.out, HSS.out, HSI.out, HRE.out, h⟩⟩)
  have HBB : Hid (∀ nk : Nat, (nk = (keysR s.ents s.tmbs s.ents.length s.tmbs.length).length ↔ (keysR s.ents s.tmbs s.ents.length s.tmbs.length).Nodup) → ((((nk : Int) == n) = true) ↔ StP s)) := Lib.hid (fun nk h => by
    rw [HI.out]
    unfold keysN
    rw [← h, keysR_len _ _ _ _ (Nat.le_refl _) (Nat.le_refl _), HNN.out]
    simp only [beq_iff_eq]
    omega)
  refine wp_region_noPanic ?_
  refine wp_region_held_drew (S := (fun w' => w'.cell? ⟨x0, 0, none⟩ = some (.int .i64 s.sq) ∧ w'.cell? ⟨x0, 1, none⟩ = some (.int .i64 s.fe) ∧ w'.cell? ⟨x0, 2, none⟩ = some (.slice A s.ents.length c) ∧ w'.cell? ⟨x0, 3, none⟩ = some (.slice A2 s.tmbs.length c2) ∧ w'.cell? ⟨x0, 4, none⟩ = some (.int .i64 s.lo.a) ∧ w'.cell? ⟨x0, 5, none⟩ = some (.int .i64 s.lo.b) ∧ w'.cell? ⟨x0, 6, none⟩ = some (.int .i64 s.lo.c) ∧ w'.cell? ⟨x0, 7, none⟩ = some (.int .i64 s.hi.a) ∧ w'.cell? ⟨x0, 8, none⟩ = some (.int .i64 s.hi.b) ∧ w'.cell? ⟨x0, 9, none⟩ = some (.int .i64 s.hi.c))) (by kernel_rfl) (CA.out.ten) (fun hHeld => ?_)
  refine kT 0 ?_
  go_frame
  refine kT 1 ?_
  go_frame
  refine wpAnyH_ready (rs := [2]) (by kernel_rfl) (by simp) ?_
  refine AllReadyH.cons (o := { dst := some 5, op := Op.call { callee := Callee.value (Operand.func 62), args := #[Operand.tmp 4, Operand.const (Value.int IntKind.i64 0), Operand.const (Value.int IntKind.i64 999999)], argTypes := #[3, 3, 3] }, type := 4, pos := "l06_manifest.go:189", after := #[{ on := 1, ground := Ground.data }], guard := none }) rfl (fun K hK => ?_) AllReadyH.nil
  go_simp
  refine (within_b s.sq 0 999999 true (by simp [HQ.out]) _).mono ?_
  rintro e7 w7 ⟨rfl, rfl⟩
  go_wp2_with fail
  refine hK.out _ _ ((CA.out.below (Below.refl _ _).drew s0).ten) (fun hHeld => ?_)
  clear hK K
  try simp only [Act.put, List.setIfInBounds_toArray, List.set_cons_zero, List.set_cons_succ]
  refine kT 3 ?_
  go_frame
  refine kT 4 ?_
  go_frame
  refine kT 5 ?_
  go_frame
  refine wpAnyH_ready (rs := [6]) (by kernel_rfl) (by simp) ?_
  refine AllReadyH.cons (o := { dst := some 9, op := Op.call { callee := Callee.value (Operand.func 62), args := #[Operand.tmp 8, Operand.const (Value.int IntKind.i64 0), Operand.const (Value.int IntKind.i64 999999)], argTypes := #[3, 3, 3] }, type := 4, pos := "l06_manifest.go:189", after := #[{ on := 5, ground := Ground.data }, { on := 3, ground := Ground.chain }, { on := 3, ground := Ground.guard }], guard := some (3, true) }) rfl (fun K hK => ?_) AllReadyH.nil
  go_simp
  refine (within_b s.fe 0 999999 true (by simp [HFE.out]) _).mono ?_
  rintro e8 w8 ⟨rfl, rfl⟩
  go_wp2_with fail
  refine hK.out _ _ ((CA.out.below (Below.refl _ _).drew s0).ten) (fun hHeld => ?_)
  clear hK K
  try simp only [Act.put, List.setIfInBounds_toArray, List.set_cons_zero, List.set_cons_succ]
  refine kT 7 ?_
  go_frame
  refine kT 8 ?_
  go_frame
  refine kT 9 ?_
  go_frame
  refine wpAnyH_ready (rs := [10]) (by kernel_rfl) (by simp) ?_
  refine AllReadyH.cons (o := { dst := some 13, op := Op.call { callee := Callee.value (Operand.func 31), args := #[Operand.tmp 12], argTypes := #[34] }, type := 3, pos := "l06_manifest.go:189", after := #[{ on := 9, ground := Ground.data }, { on := 8, ground := Ground.chain }, { on := 8, ground := Ground.guard }], guard := some (8, true) }) rfl (fun K hK => ?_) AllReadyH.nil
  go_simp
  refine (HSZ.out _).mono ?_
  rintro e9 w9 ⟨rfl, hb9⟩
  have b9 : Below W.heap.size W w9 := (Below.refl _ _).drew.trans hb9
  have s9 : x0 < w9.heap.size := Nat.lt_of_lt_of_le s0 b9.size
  go_wp2_with fail
  refine hK.out _ _ ((CA.out.below b9 s0).ten) (fun hHeld => ?_)
  clear hK K
  try simp only [Act.put, List.setIfInBounds_toArray, List.set_cons_zero, List.set_cons_succ]
  refine kT 11 ?_
  go_frame
  refine kT 12 ?_
  go_frame
  refine kT 13 ?_
  go_frame
  refine kT 14 ?_
  go_frame
  refine wpAnyH_ready (rs := [15]) (by kernel_rfl) (by simp) ?_
  refine AllReadyH.cons (o := { dst := some 18, op := Op.call { callee := Callee.value (Operand.func 63), args := #[Operand.tmp 17], argTypes := #[34] }, type := 4, pos := "l06_manifest.go:190", after := #[{ on := 14, ground := Ground.data }, { on := 13, ground := Ground.chain }, { on := 13, ground := Ground.guard }], guard := some (13, true) }) rfl (fun K hK => ?_) AllReadyH.nil
  go_simp
  refine (sideBySide_b A c A2 c2 s B true (by simp [HSI.out]) w9 (H.out.below (b0.trans (b9.mono (by omega))) (by omega)) (by omega) Hf.out hl (HP.out _ (b0.trans (b9.mono (by omega)))).1 (HP.out _ (b0.trans (b9.mono (by omega)))).2).mono ?_
  rintro e10 w10 ⟨rfl, hb10⟩
  have b10 : Below W.heap.size W w10 := b9.trans (hb10.mono b9.size)
  have s10 : x0 < w10.heap.size := Nat.lt_of_lt_of_le s0 b10.size
  go_wp2_with fail
  refine hK.out _ _ ((CA.out.below b10 s0).ten) (fun hHeld => ?_)
  clear hK K
  try simp only [Act.put, List.setIfInBounds_toArray, List.set_cons_zero, List.set_cons_succ]
  refine kT 16 ?_
  go_frame
  refine kT 17 ?_
  go_frame
  refine kT 18 ?_
  go_frame
  refine wpAnyH_ready (rs := [19]) (by kernel_rfl) (by simp) ?_
  refine AllReadyH.cons (o := { dst := some 22, op := Op.call { callee := Callee.value (Operand.func 64), args := #[Operand.tmp 21], argTypes := #[34] }, type := 4, pos := "l06_manifest.go:190", after := #[{ on := 18, ground := Ground.data }, { on := 17, ground := Ground.chain }, { on := 17, ground := Ground.guard }], guard := some (17, true) }) rfl (fun K hK => ?_) AllReadyH.nil
  go_simp
  refine (restsRight_b A c A2 c2 s B true (by simp [HRE.out]) w10 (H.out.below (b0.trans (b10.mono (by omega))) (by omega)) (by omega) Hf2.out hl2 (HP.out _ (b0.trans (b10.mono (by omega)))).1 (HP.out _ (b0.trans (b10.mono (by omega)))).2).mono ?_
  rintro e11 w11 ⟨rfl, hb11⟩
  have b11 : Below W.heap.size W w11 := b10.trans (hb11.mono b10.size)
  have s11 : x0 < w11.heap.size := Nat.lt_of_lt_of_le s0 b11.size
  go_wp2_with fail
  refine hK.out _ _ ((CA.out.below b11 s0).ten) (fun hHeld => ?_)
  clear hK K
  try simp only [Act.put, List.setIfInBounds_toArray, List.set_cons_zero, List.set_cons_succ]
  refine kT 20 ?_
  go_frame
  refine kT 21 ?_
  go_frame
  refine kT 22 ?_
  go_frame
  refine kT 25 ?_
  go_frame
  refine wpAnyH_ready (rs := [23]) (by kernel_rfl) (by simp) ?_
  refine AllReadyH.cons (o := { dst := some 26, op := Op.call { callee := Callee.value (Operand.func 65), args := #[Operand.tmp 25], argTypes := #[34] }, type := 71, pos := "l06_manifest.go:190", after := #[{ on := 22, ground := Ground.data }, { on := 21, ground := Ground.chain }, { on := 21, ground := Ground.guard }], guard := some (21, true) }) rfl (fun K hK => ?_) AllReadyH.nil
  go_simp
  refine (stKeys_any A c A2 c2 s B w11 (H.out.below (b0.trans (b11.mono (by omega))) (by omega)) (by have := b11.size; omega) Hf.out Hf2.out hl hl2).mono ?_
  rintro e12 w12 ⟨m, rfl, hm12, hm0, hb12⟩
  have b12 : Below W.heap.size W w12 := b11.trans (hb12.mono b11.size)
  have s12 : x0 < w12.heap.size := Nat.lt_of_lt_of_le s0 b12.size
  obtain ⟨nk, hnk1, hnk2, hlen⟩ := hm12.len
  have HM := Lib.hid hm12
  have hlen12 := fun ty => hlen ty
  have HB := Lib.hid (HBB.out nk hnk2)
  clear hm12 hlen hnk1 hnk2
  go_wp2_with fail
  refine hK.out _ _ ((CA.out.below b12 s0).ten) (fun hHeld => ?_)
  clear hK K
  try simp only [Act.put, List.setIfInBounds_toArray, List.set_cons_zero, List.set_cons_succ]
  refine wpAnyH_ready (rs := [24]) (by kernel_rfl) (by simp) ?_
  refine AllReadyH.cons (o := { dst := some 27, op := Op.call { callee := Callee.builtin Builtin.len, args := #[Operand.tmp 26], argTypes := #[71] }, type := 3, pos := "l06_manifest.go:189", after := #[{ on := 23, ground := Ground.data }, { on := 23, ground := Ground.chain }, { on := 21, ground := Ground.guard }], guard := some (21, true) }) rfl (fun K hK => ?_) AllReadyH.nil
  go_simp
  refine hK.out _ _ ((CA.out.below b12 s0).ten) (fun hHeld => ?_)
  clear hK K
  try simp only [Act.put, List.setIfInBounds_toArray, List.set_cons_zero, List.set_cons_succ]
  refine wpAnyH_ready (rs := [26]) (by kernel_rfl) (by simp) ?_
  refine AllReadyH.cons (o := { dst := some 29, op := Op.call { callee := Callee.value (Operand.func 31), args := #[Operand.tmp 28], argTypes := #[34] }, type := 3, pos := "l06_manifest.go:190", after := #[{ on := 25, ground := Ground.data }, { on := 24, ground := Ground.chain }, { on := 21, ground := Ground.guard }], guard := some (21, true) }) rfl (fun K hK => ?_) AllReadyH.nil
  go_simp
  refine (HSZ.out _).mono ?_
  rintro e13 w13 ⟨rfl, hb13⟩
  have b13 : Below W.heap.size W w13 := b12.trans (hb13.mono b12.size)
  have s13 : x0 < w13.heap.size := Nat.lt_of_lt_of_le s0 b13.size
  go_wp2_with fail
  refine hK.out _ _ ((CA.out.below b13 s0).ten) (fun hHeld => ?_)
  clear hK K
  try simp only [Act.put, List.setIfInBounds_toArray, List.set_cons_zero, List.set_cons_succ]
  refine kT 27 ?_
  go_frame
  refine kT 28 ?_
  go_frame
  refine kT 29 ?_
  go_frame
  refine wpAnyH_done (by kernel_rfl) ?_ _
  refine NoPanic.normal ?_
  have bF : Below x0 w _ := b0.trans (b13.mono (by omega))
  clear hHeld
  go_wp2
  go_ret
  exact ⟨_, HB.out, rfl, by rw [Hx0.out]; exact bF⟩

end Go.Proofs.YtpfanmcjlfdaiaaGreatDoorR
