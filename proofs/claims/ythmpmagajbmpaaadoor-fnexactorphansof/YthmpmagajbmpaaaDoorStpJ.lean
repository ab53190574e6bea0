/-
  Contract of the program's sideBySide. Conditions: the program's table of paths is as its text lays it; lengths.
-/
import Derived.Test.YthmpmagajbmpaaaDoorStpI
import Derived.Deep.RegionHeld3
namespace Go.Proofs.YthmpmagajbmpaaaDoor
open Go.ChangeShapes Go.WideShapes Go.ChangeAt Go.RowKit Go.Deep Go.Joins
set_option linter.unusedVariables false
set_option linter.unusedSimpArgs false

theorem ixT0 (a b c : Int) (w : World) : (Instr.index 24 (.agg #[.int .i64 a, .int .i64 b, .int .i64 c]) (.int .i64 0)).run Tryd.prog w = .ok (.int .i64 a) w := by kernel_rfl

theorem ixT1 (a b c : Int) (w : World) : (Instr.index 24 (.agg #[.int .i64 a, .int .i64 b, .int .i64 c]) (.int .i64 1)).run Tryd.prog w = .ok (.int .i64 b) w := by kernel_rfl

theorem ixT2 (a b c : Int) (w : World) : (Instr.index 24 (.agg #[.int .i64 a, .int .i64 b, .int .i64 c]) (.int .i64 2)).run Tryd.prog w = .ok (.int .i64 c) w := by kernel_rfl

theorem entRight_b (e : GEnt) (b : Bool) (h : b = true ↔ EntP e) (w : World) (hk : e.key.size ≤ 2 ^ 63 - 1) (hp : Paths w) (hz : 2 < w.heap.size) : Calls Tryd.prog 90 #[.agg #[.int .i64 e.tier, .int .i64 e.beg, .int .i64 e.fin, .string e.key]] w fun x w' => x = .returned (.bool b) ∧ Below w.heap.size w w' :=
  (entRight_any e w hk hp hz).mono fun x w' ⟨b', hb', he, hB⟩ => ⟨by rw [he, Bool.eq_iff_iff.2 (hb'.trans h.symm)], hB⟩

theorem tri_set {w : World} {y : Nat} {t : GTri} (h : Tri w y t) {j : Nat} (hj : j < 3) (v : Int) : Tri (w.setCell ⟨y, j, none⟩ (.int .i64 v)) y (t.set (j : Int) v) := by
  obtain ⟨h0, h1, h2⟩ := h
  match j, hj with
  | 0, _ => exact ⟨cset_eq w y 0 _ h0, (cset_ne w y 0 1 _ (by decide)).trans h1, (cset_ne w y 0 2 _ (by decide)).trans h2⟩
  | 1, _ => exact ⟨(cset_ne w y 1 0 _ (by decide)).trans h0, cset_eq w y 1 _ h1, (cset_ne w y 1 2 _ (by decide)).trans h2⟩
  | 2, _ => exact ⟨(cset_ne w y 2 0 _ (by decide)).trans h0, (cset_ne w y 2 1 _ (by decide)).trans h1, cset_eq w y 2 _ h2⟩

theorem tri_at {w : World} {y : Nat} {t : GTri} (h : Tri w y t) {j : Nat} (hj : j < 3) : w.cell? ⟨y, j, none⟩ = some (.int .i64 (t.at (j : Int))) := by
  obtain ⟨h0, h1, h2⟩ := h
  match j, hj with
  | 0, _ => exact h0
  | 1, _ => exact h1
  | 2, _ => exact h2

set_option maxRecDepth 100000 in
set_option maxHeartbeats 4000000 in
theorem sideBySide_any (A : Option Addr) (c : Nat) (A2 : Option Addr) (c2 : Nat) (s : GSt) (B : Nat) (w : World) (h : StAt w B A A2 s) (hB : B ≤ w.heap.size) (hf : ∀ o ∈ s.ents, o.fit) (hl : s.ents.length ≤ 1048576) (hp : Paths w) (hz : 2 < w.heap.size) : Calls Tryd.prog 72 #[.agg #[.int .i64 s.sq, .int .i64 s.fe, .slice A s.ents.length c, .slice A2 s.tmbs.length c2, .int .i64 s.lo.a, .int .i64 s.lo.b, .int .i64 s.lo.c, .int .i64 s.hi.a, .int .i64 s.hi.b, .int .i64 s.hi.c]] w (IsBB (SidesP s) w) := by
  have H := Lib.hid h; clear h
  have Hf := Lib.hid hf; clear hf
  have HP : Hid (∀ w', Below w.heap.size w w' → Paths w' ∧ 2 < w'.heap.size) := Lib.hid (fun w' h => ⟨hp.below h hz, Nat.lt_of_lt_of_le hz h.size⟩)
  clear hp
  go_enter Tryd.func72, Tryd.ntmps72
  go_wp2_with fail
  have CA : Hid (Cells (w.alloc (.cells #[.int .i64 s.sq, .int .i64 s.fe, .slice A s.ents.length c, .slice A2 s.tmbs.length c2, .int .i64 s.lo.a, .int .i64 s.lo.b, .int .i64 s.lo.c, .int .i64 s.hi.a, .int .i64 s.hi.b, .int .i64 s.hi.c] 33)) w.heap.size 0 [.int .i64 s.sq, .int .i64 s.fe, .slice A s.ents.length c, .slice A2 s.tmbs.length c2, .int .i64 s.lo.a, .int .i64 s.lo.b, .int .i64 s.lo.c, .int .i64 s.hi.a, .int .i64 s.hi.b, .int .i64 s.hi.c]) := Lib.hid (Cells.new w _ _)
  have b0 : Below w.heap.size w (w.alloc (.cells #[.int .i64 s.sq, .int .i64 s.fe, .slice A s.ents.length c, .slice A2 s.tmbs.length c2, .int .i64 s.lo.a, .int .i64 s.lo.b, .int .i64 s.lo.c, .int .i64 s.hi.a, .int .i64 s.hi.b, .int .i64 s.hi.c] 33)) := bal (Below.refl _ _) _
  have s0 : w.heap.size < (w.alloc (.cells #[.int .i64 s.sq, .int .i64 s.fe, .slice A s.ents.length c, .slice A2 s.tmbs.length c2, .int .i64 s.lo.a, .int .i64 s.lo.b, .int .i64 s.lo.c, .int .i64 s.hi.a, .int .i64 s.hi.b, .int .i64 s.hi.c] 33)).heap.size := by simp
  generalize w.alloc (.cells #[.int .i64 s.sq, .int .i64 s.fe, .slice A s.ents.length c, .slice A2 s.tmbs.length c2, .int .i64 s.lo.a, .int .i64 s.lo.b, .int .i64 s.lo.c, .int .i64 s.hi.a, .int .i64 s.hi.b, .int .i64 s.hi.c] 33) = W at *
  generalize hx0 : w.heap.size = x0 at *
  have Hx0 := Lib.hid hx0; clear hx0
  obtain ⟨t0, t1, t2, t3, t4, t5, t6, t7, t8, t9⟩ := CA.out.ten
  go_wp2_with fail
  go_loopw [10] (fun i wr => ∃ k : Nat, k ≤ 3 ∧ i = .int .i64 (k : Int) ∧ Hid (∀ i, i < k → 0 ≤ s.lo.at (i : Nat) ∧ s.lo.at (i : Nat) ≤ 100000) ∧ wr = W) (fun i _ => 3 - (intOf i).toNat)
  case atStart => exact ⟨0, by omega, rfl, Lib.hid (fun i h => by omega), rfl⟩
  case round =>
    obtain ⟨k, hk, hi, HL, rfl⟩ := hrel
    by_cases h3 : k < 3
    · rcases (show k = 0 ∨ k = 1 ∨ k = 2 by omega) with rfl | rfl | rfl
      · rw [show ((0 : Nat) : Int) = 0 from rfl] at hi
        subst hi
        have ix := ixT0 s.lo.a s.lo.b s.lo.c
        cases hin : inB s.lo.a 0 100000
        · have HN := Lib.hid (show ¬ SidesP s from fun h => by
            have := h.1 0 (by omega)
            have e : s.lo.at (0 : Nat) = s.lo.a := rfl
            rw [e, ← inB_iff, hin] at this
            cases this)
          go_wp2_with (go_at_call 70; refine (within_any _ _ _ _).mono ?_; rintro e w' ⟨rfl, rfl⟩)
          go_ret
          exact IsBB.no HN.out (by rw [Hx0.out]; exact b0)
        · have HL2 := Lib.hid (show ∀ i, i < 0 + 1 → 0 ≤ s.lo.at (i : Nat) ∧ s.lo.at (i : Nat) ≤ 100000 from fun i hi => by
            by_cases e : i = 0
            · subst e
              exact inB_iff.1 hin
            · exact HL.out i (by omega))
          go_wp2_with (go_at_call 70; refine (within_any _ _ _ _).mono ?_; rintro e w' ⟨rfl, rfl⟩)
          go_roundw
          case rel => exact ⟨0 + 1, by omega, rfl, HL2, trivial⟩
          case measure => simp [intOf]
      · rw [show ((1 : Nat) : Int) = 1 from rfl] at hi
        subst hi
        have ix := ixT1 s.lo.a s.lo.b s.lo.c
        cases hin : inB s.lo.b 0 100000
        · have HN := Lib.hid (show ¬ SidesP s from fun h => by
            have := h.1 1 (by omega)
            have e : s.lo.at (1 : Nat) = s.lo.b := rfl
            rw [e, ← inB_iff, hin] at this
            cases this)
          go_wp2_with (go_at_call 70; refine (within_any _ _ _ _).mono ?_; rintro e w' ⟨rfl, rfl⟩)
          go_ret
          exact IsBB.no HN.out (by rw [Hx0.out]; exact b0)
        · have HL2 := Lib.hid (show ∀ i, i < 1 + 1 → 0 ≤ s.lo.at (i : Nat) ∧ s.lo.at (i : Nat) ≤ 100000 from fun i hi => by
            by_cases e : i = 1
            · subst e
              exact inB_iff.1 hin
            · exact HL.out i (by omega))
          go_wp2_with (go_at_call 70; refine (within_any _ _ _ _).mono ?_; rintro e w' ⟨rfl, rfl⟩)
          go_roundw
          case rel => exact ⟨1 + 1, by omega, rfl, HL2, trivial⟩
          case measure => simp [intOf]
      · rw [show ((2 : Nat) : Int) = 2 from rfl] at hi
        subst hi
        have ix := ixT2 s.lo.a s.lo.b s.lo.c
        cases hin : inB s.lo.c 0 100000
        · have HN := Lib.hid (show ¬ SidesP s from fun h => by
            have := h.1 2 (by omega)
            have e : s.lo.at (2 : Nat) = s.lo.c := rfl
            rw [e, ← inB_iff, hin] at this
            cases this)
          go_wp2_with (go_at_call 70; refine (within_any _ _ _ _).mono ?_; rintro e w' ⟨rfl, rfl⟩)
          go_ret
          exact IsBB.no HN.out (by rw [Hx0.out]; exact b0)
        · have HL2 := Lib.hid (show ∀ i, i < 2 + 1 → 0 ≤ s.lo.at (i : Nat) ∧ s.lo.at (i : Nat) ≤ 100000 from fun i hi => by
            by_cases e : i = 2
            · subst e
              exact inB_iff.1 hin
            · exact HL.out i (by omega))
          go_wp2_with (go_at_call 70; refine (within_any _ _ _ _).mono ?_; rintro e w' ⟨rfl, rfl⟩)
          go_roundw
          case rel => exact ⟨2 + 1, by omega, rfl, HL2, trivial⟩
          case measure => simp [intOf]
    obtain rfl : k = 3 := by omega
    rw [show ((3 : Nat) : Int) = 3 from rfl] at hi
    subst hi
    have HLW := Lib.hid (show LowP s.lo from HL.out)
    clear HL h3 hk
    go_wp2_with fail
    have TY := Lib.hid (Tri.new wr s.lo 24)
    have FY := Lib.hid (free_alloc wr #[.int .i64 s.lo.a, .int .i64 s.lo.b, .int .i64 s.lo.c] 24 0)
    have b1 : Below x0 w (wr.alloc (.cells #[.int .i64 s.lo.a, .int .i64 s.lo.b, .int .i64 s.lo.c] 24)) := b0.alloc (Nat.le_of_lt s0) _
    have CA1 := Lib.hid (CA.out.below (bal (Below.refl _ wr) (.cells #[.int .i64 s.lo.a, .int .i64 s.lo.b, .int .i64 s.lo.c] 24)) s0)
    have sy : wr.heap.size < (wr.alloc (.cells #[.int .i64 s.lo.a, .int .i64 s.lo.b, .int .i64 s.lo.c] 24)).heap.size := by simp
    generalize wr.alloc (.cells #[.int .i64 s.lo.a, .int .i64 s.lo.b, .int .i64 s.lo.c] 24) = W1 at *
    obtain ⟨y, hy⟩ : ∃ y, y = wr.heap.size := ⟨_, rfl⟩
    rw [← hy] at TY FY sy s0 ⊢
    clear CA b0 t0 t1 t2 t3 t4 t5 t6 t7 t8 t9 hy
    go_loopw [22] (fun i wr => ∃ k : Nat, k ≤ s.ents.length ∧ i = .int .i64 k ∧ Hid (SideP s.lo s.ents k) ∧ Hid (Tri wr y (endsOf s.lo (s.ents.take k))) ∧ Hid (Free wr (some ⟨y, 0, none⟩)) ∧ Hid (Cells wr x0 0 [.int .i64 s.sq, .int .i64 s.fe, .slice A s.ents.length c, .slice A2 s.tmbs.length c2, .int .i64 s.lo.a, .int .i64 s.lo.b, .int .i64 s.lo.c, .int .i64 s.hi.a, .int .i64 s.hi.b, .int .i64 s.hi.c]) ∧ Hid (y < wr.heap.size) ∧ Below x0 w wr) (fun i _ => s.ents.length - (intOf i).toNat)
    case atStart => exact ⟨0, by omega, rfl, Lib.hid (fun k hk => by omega), TY, FY, CA1, Lib.hid sy, b1⟩
    case round =>
      clear TY FY CA1 sy b1
      obtain ⟨k, hk, rfl, HD, TY, FY, CA, HS, hb⟩ := hrel
      by_cases hlt : k < s.ents.length
      · obtain ⟨b1, o1, rfl, hb1, p0, p1, p2, p3⟩ := EntsAt.one (Sl.below H.out.1 hb (by have := Hx0.out; omega)) hlt
        have hfit := (Hf.out _ (List.getElem_mem hlt)).2.2.2
        have HSU := Lib.hid (fun (h1 : EntP s.ents[k]) (h2 : s.ents[k].beg = (endsOf s.lo (s.ents.take k)).at s.ents[k].tier) => HD.out.succ hlt h1 h2)
        have HNO := Lib.hid (fun (h : SidesP s) => h.2.1 k hlt hlt)
        have HES := Lib.hid (endsOf_succ s.lo s.ents k hlt)
        have hsy : y < wr.heap.size := HS.out
        have hxy : x0 < wr.heap.size := by omega
        generalize s.ents[k] = e at *
        go_wp2_with fail
        have q := EntsAt.one (w := wr.alloc (.cells #[.int .i64 e.tier, .int .i64 e.beg, .int .i64 e.fin, .string e.key] 44)) (B := wr.heap.size + 1) (A := some ⟨wr.heap.size, 0, none⟩) (xs := [e]) (fun _ => ⟨wr.heap.size, 0, rfl, by omega, fun i hi => by
          obtain rfl : i = 0 := by simpa using hi
          exact Cells.new wr e.vals _⟩) (k := 0) (by simp)
        obtain ⟨_, _, eq0, _, q0, q1, q2, q3⟩ := q
        injection eq0 with eq0
        injection eq0 with eq1 eq2
        subst eq1 eq2
        simp only [Nat.zero_mul, Nat.zero_add, List.getElem_cons_zero] at q0 q1 q2 q3
        have bA : Below x0 w (wr.alloc (.cells #[.int .i64 e.tier, .int .i64 e.beg, .int .i64 e.fin, .string e.key] 44)) := hb.alloc (Nat.le_of_lt hxy) _
        have bN : Below wr.heap.size wr (wr.alloc (.cells #[.int .i64 e.tier, .int .i64 e.beg, .int .i64 e.fin, .string e.key] 44)) := bal (Below.refl _ _) _
        have TYA := Lib.hid (TY.out.below bN hsy)
        have FYA := Lib.hid (FY.out.below bN (fun b e => by simp [blk] at e; omega))
        have CAA := Lib.hid (CA.out.below bN hxy)
        have sA : wr.heap.size < (wr.alloc (.cells #[.int .i64 e.tier, .int .i64 e.beg, .int .i64 e.fin, .string e.key] 44)).heap.size := by simp
        generalize wr.alloc (.cells #[.int .i64 e.tier, .int .i64 e.beg, .int .i64 e.fin, .string e.key] 44) = WA at *
        obtain ⟨z, hz0⟩ : ∃ z, z = wr.heap.size := ⟨_, rfl⟩
        rw [← hz0] at q0 q1 q2 q3 sA hsy hxy ⊢
        clear p0 p1 p2 p3 TY FY CA HS hb bN hb1 HD hz0
        by_cases he : EntP e
        rotate_left
        · have HE := Lib.hid he; have HK := Lib.hid hfit
          have HN := Lib.hid (show ¬ SidesP s from fun h => he (HNO.out h).1)
          clear he hfit
          refine wp_region_noPanic ?_
          refine wp_region_held_drew (S := (fun w' => w'.cell? ⟨z, 0, none⟩ = some (.int .i64 e.tier) ∧ w'.cell? ⟨z, 1, none⟩ = some (.int .i64 e.beg) ∧ w'.cell? ⟨z, 2, none⟩ = some (.int .i64 e.fin) ∧ w'.cell? ⟨z, 3, none⟩ = some (.string e.key))) (by kernel_rfl) (⟨q0, q1, q2, q3⟩) (fun hHeld => ?_)
          refine wpAnyH_take (i := 0) (oi := { dst := some 26, op := Op.load 44 (Operand.tmp 7), type := 44, pos := "l06_manifest.go:205", after := #[], guard := none }) (v := ?vb0) rfl (by kernel_rfl) (by kernel_rfl) (by kernel_rfl) (fun _ _ _ h => h) (Or.inl ⟨by rfl, ?hyb0⟩) (by assumption) ?restb0
          case hyb0 => intro w hSw; (try dsimp only at hSw); (obtain ⟨q0, q1, q2, q3⟩ := hSw); (first | (go_simp; done) | (go_simp; with_reducible rfl) | (with_reducible rfl))
          try simp only [Act.put, List.setIfInBounds_toArray, List.set_cons_zero, List.set_cons_succ]
          refine wpAnyH_ready (rs := [1]) (by kernel_rfl) (by simp) ?_
          refine AllReadyH.cons (o := { dst := some 27, op := Op.call { callee := Callee.value (Operand.func 90), args := #[Operand.tmp 26], argTypes := #[44] }, type := 4, pos := "l06_manifest.go:205", after := #[{ on := 0, ground := Ground.data }], guard := none }) rfl (fun K hK => ?_) AllReadyH.nil
          go_simp
          refine (entRight_b e false (by simp [HE.out]) _ (by have := HK.out; unfold maxLen at this; omega) (HP.out _ bA.drew).1 (HP.out _ bA.drew).2).mono ?_
          rintro e5 w5 ⟨rfl, hb5⟩
          go_wp2_with fail
          refine hK.out _ _ (⟨(hb5.cell (by exact sA)).trans q0, (hb5.cell (by exact sA)).trans q1, (hb5.cell (by exact sA)).trans q2, (hb5.cell (by exact sA)).trans q3⟩) (fun hHeld => ?_)
          clear hK K
          try simp only [Act.put, List.setIfInBounds_toArray, List.set_cons_zero, List.set_cons_succ]
          refine wpAnyH_take (i := 2) (oi := { dst := some 28, op := Op.unOp UnOp.not 4 (Operand.tmp 27), type := 4, pos := "l06_manifest.go:205", after := #[{ on := 1, ground := Ground.data }], guard := none }) (v := ?vb2) rfl (by kernel_rfl) (by kernel_rfl) (by kernel_rfl) (fun _ _ _ h => h) (Or.inl ⟨by rfl, ?hyb2⟩) (by assumption) ?restb2
          case hyb2 => intro w hSw; (try dsimp only at hSw); (obtain ⟨q0, q1, q2, q3⟩ := hSw); (first | (go_simp; done) | (go_simp; with_reducible rfl) | (with_reducible rfl))
          try simp only [Act.put, List.setIfInBounds_toArray, List.set_cons_zero, List.set_cons_succ]
          refine wpAnyH_take (i := 3) (oi := { dst := some 29, op := Op.move (Operand.tmp 28), type := 4, pos := "l06_manifest.go:205", after := #[{ on := 2, ground := Ground.data }, { on := 1, ground := Ground.chain }], guard := none }) (v := ?vb3) rfl (by kernel_rfl) (by kernel_rfl) (by kernel_rfl) (fun _ _ _ h => h) (Or.inl ⟨by rfl, ?hyb3⟩) (by assumption) ?restb3
          case hyb3 => intro w hSw; (try dsimp only at hSw); (obtain ⟨q0, q1, q2, q3⟩ := hSw); (first | (go_simp; done) | (go_simp; with_reducible rfl) | (with_reducible rfl))
          try simp only [Act.put, List.setIfInBounds_toArray, List.set_cons_zero, List.set_cons_succ]
          refine wpAnyH_take (i := 4) (oi := { dst := some 30, op := Op.fieldAddr 44 (Operand.tmp 7) 1, type := 0, pos := "l06_manifest.go:205", after := #[{ on := 3, ground := Ground.guard }], guard := some (3, false) }) (v := undef) rfl (by kernel_rfl) (by kernel_rfl) (by kernel_rfl) (fun _ _ _ h => h) (Or.inr ⟨by rfl, rfl⟩) (by assumption) ?_
          try simp only [Act.put, List.setIfInBounds_toArray, List.set_cons_zero, List.set_cons_succ]
          refine wpAnyH_take (i := 5) (oi := { dst := some 31, op := Op.load 3 (Operand.tmp 30), type := 3, pos := "l06_manifest.go:205", after := #[{ on := 4, ground := Ground.data }, { on := 3, ground := Ground.guard }], guard := some (3, false) }) (v := undef) rfl (by kernel_rfl) (by kernel_rfl) (by kernel_rfl) (fun _ _ _ h => h) (Or.inr ⟨by rfl, rfl⟩) (by assumption) ?_
          try simp only [Act.put, List.setIfInBounds_toArray, List.set_cons_zero, List.set_cons_succ]
          refine wpAnyH_take (i := 6) (oi := { dst := some 32, op := Op.fieldAddr 44 (Operand.tmp 7) 0, type := 0, pos := "l06_manifest.go:205", after := #[{ on := 3, ground := Ground.guard }], guard := some (3, false) }) (v := undef) rfl (by kernel_rfl) (by kernel_rfl) (by kernel_rfl) (fun _ _ _ h => h) (Or.inr ⟨by rfl, rfl⟩) (by assumption) ?_
          try simp only [Act.put, List.setIfInBounds_toArray, List.set_cons_zero, List.set_cons_succ]
          refine wpAnyH_take (i := 7) (oi := { dst := some 33, op := Op.load 3 (Operand.tmp 32), type := 3, pos := "l06_manifest.go:205", after := #[{ on := 6, ground := Ground.data }, { on := 3, ground := Ground.guard }], guard := some (3, false) }) (v := undef) rfl (by kernel_rfl) (by kernel_rfl) (by kernel_rfl) (fun _ _ _ h => h) (Or.inr ⟨by rfl, rfl⟩) (by assumption) ?_
          try simp only [Act.put, List.setIfInBounds_toArray, List.set_cons_zero, List.set_cons_succ]
          refine wpAnyH_take (i := 8) (oi := { dst := some 34, op := Op.indexAddr 24 (Operand.tmp 5) (Operand.tmp 33), type := 0, pos := "l06_manifest.go:205", after := #[{ on := 7, ground := Ground.data }, { on := 3, ground := Ground.guard }], guard := some (3, false) }) (v := undef) rfl (by kernel_rfl) (by kernel_rfl) (by kernel_rfl) (fun _ _ _ h => h) (Or.inr ⟨by rfl, rfl⟩) (by assumption) ?_
          try simp only [Act.put, List.setIfInBounds_toArray, List.set_cons_zero, List.set_cons_succ]
          refine wpAnyH_take (i := 9) (oi := { dst := some 35, op := Op.load 3 (Operand.tmp 34), type := 3, pos := "l06_manifest.go:205", after := #[{ on := 8, ground := Ground.data }, { on := 3, ground := Ground.guard }], guard := some (3, false) }) (v := undef) rfl (by kernel_rfl) (by kernel_rfl) (by kernel_rfl) (fun _ _ _ h => h) (Or.inr ⟨by rfl, rfl⟩) (by assumption) ?_
          try simp only [Act.put, List.setIfInBounds_toArray, List.set_cons_zero, List.set_cons_succ]
          refine wpAnyH_take (i := 10) (oi := { dst := some 36, op := Op.binOp BinOp.neq 3 (Operand.tmp 31) (Operand.tmp 35) 3, type := 4, pos := "l06_manifest.go:205", after := #[{ on := 5, ground := Ground.data }, { on := 9, ground := Ground.data }, { on := 3, ground := Ground.guard }], guard := some (3, false) }) (v := undef) rfl (by kernel_rfl) (by kernel_rfl) (by kernel_rfl) (fun _ _ _ h => h) (Or.inr ⟨by rfl, rfl⟩) (by assumption) ?_
          try simp only [Act.put, List.setIfInBounds_toArray, List.set_cons_zero, List.set_cons_succ]
          refine wpAnyH_take (i := 11) (oi := { dst := some 37, op := Op.pick (Operand.tmp 29) (Operand.const (Value.bool true)) (Operand.tmp 36), type := 4, pos := "l06_manifest.go:205", after := #[{ on := 3, ground := Ground.data }, { on := 10, ground := Ground.data }], guard := none }) (v := ?vb11) rfl (by kernel_rfl) (by kernel_rfl) (by kernel_rfl) (fun _ _ _ h => h) (Or.inl ⟨by rfl, ?hyb11⟩) (by assumption) ?restb11
          case hyb11 => intro w hSw; (try dsimp only at hSw); (obtain ⟨q0, q1, q2, q3⟩ := hSw); (first | (go_simp; done) | (go_simp; with_reducible rfl) | (with_reducible rfl))
          try simp only [Act.put, List.setIfInBounds_toArray, List.set_cons_zero, List.set_cons_succ]
          refine wpAnyH_done (by kernel_rfl) ?_ _
          refine NoPanic.normal ?_
          have b5 := bA.drew.trans (hb5.mono (by show x0 ≤ WA.heap.size; omega))
          clear hb5 q0 q1 q2 q3 hHeld
          go_wp2
          go_ret
          exact IsBB.no HN.out (by rw [Hx0.out]; exact b5)
        have ht := he.tier
        have HE := Lib.hid he; have HK := Lib.hid hfit
        clear he hfit
        obtain ⟨ti, bg, fi, ky⟩ := e
        dsimp only at *
        obtain ⟨j, rfl⟩ := Int.eq_ofNat_of_zero_le ht.1
        have hj3 : j < 3 := by omega
        have i1 : (0 : Int) ≤ (j : Int) := by omega
        have i2 : (j : Int) < 3 := by omega
        have q4 := tri_at TYA.out hj3
        by_cases hbg : bg = (endsOf s.lo (s.ents.take k)).at (j : Int)
        rotate_left
        · have HN := Lib.hid (show ¬ SidesP s from fun h => hbg (HNO.out h).2)
          have dn : (bg != (endsOf s.lo (s.ents.take k)).at (j : Int)) = true := by simpa using hbg
          have dn2 : (bg == (endsOf s.lo (s.ents.take k)).at (j : Int)) = false := by simpa using hbg
          clear hbg ht
          generalize (endsOf s.lo (s.ents.take k)).at (j : Int) = v at *
          refine wp_region_noPanic ?_
          refine wp_region_held_drew (S := (fun w' => w'.cell? ⟨z, 0, none⟩ = some (.int .i64 (j : Int)) ∧ w'.cell? ⟨z, 1, none⟩ = some (.int .i64 bg) ∧ w'.cell? ⟨z, 2, none⟩ = some (.int .i64 fi) ∧ w'.cell? ⟨z, 3, none⟩ = some (.string ky) ∧ w'.cell? ⟨y, j, none⟩ = some (.int .i64 (v)))) (by kernel_rfl) (⟨q0, q1, q2, q3, q4⟩) (fun hHeld => ?_)
          refine wpAnyH_take (i := 0) (oi := { dst := some 26, op := Op.load 44 (Operand.tmp 7), type := 44, pos := "l06_manifest.go:205", after := #[], guard := none }) (v := ?vc0) rfl (by kernel_rfl) (by kernel_rfl) (by kernel_rfl) (fun _ _ _ h => h) (Or.inl ⟨by rfl, ?hyc0⟩) (by assumption) ?restc0
          case hyc0 => intro w hSw; (try dsimp only at hSw); (obtain ⟨q0, q1, q2, q3, q4⟩ := hSw); (first | (go_simp; done) | (go_simp; with_reducible rfl) | (with_reducible rfl))
          try simp only [Act.put, List.setIfInBounds_toArray, List.set_cons_zero, List.set_cons_succ]
          refine wpAnyH_ready (rs := [1]) (by kernel_rfl) (by simp) ?_
          refine AllReadyH.cons (o := { dst := some 27, op := Op.call { callee := Callee.value (Operand.func 90), args := #[Operand.tmp 26], argTypes := #[44] }, type := 4, pos := "l06_manifest.go:205", after := #[{ on := 0, ground := Ground.data }], guard := none }) rfl (fun K hK => ?_) AllReadyH.nil
          go_simp
          refine (entRight_b ⟨(j : Int), bg, fi, ky⟩ true (by simp [HE.out]) _ (by have := HK.out; unfold maxLen at this; omega) (HP.out _ bA.drew).1 (HP.out _ bA.drew).2).mono ?_
          rintro e5 w5 ⟨rfl, hb5⟩
          go_wp2_with fail
          refine hK.out _ _ (⟨(hb5.cell (by exact sA)).trans q0, (hb5.cell (by exact sA)).trans q1, (hb5.cell (by exact sA)).trans q2, (hb5.cell (by exact sA)).trans q3, (hb5.cell (p := ⟨y, j, none⟩) (by show y < WA.heap.size; omega)).trans q4⟩) (fun hHeld => ?_)
          clear hK K
          try simp only [Act.put, List.setIfInBounds_toArray, List.set_cons_zero, List.set_cons_succ]
          refine wpAnyH_take (i := 2) (oi := { dst := some 28, op := Op.unOp UnOp.not 4 (Operand.tmp 27), type := 4, pos := "l06_manifest.go:205", after := #[{ on := 1, ground := Ground.data }], guard := none }) (v := ?vc2) rfl (by kernel_rfl) (by kernel_rfl) (by kernel_rfl) (fun _ _ _ h => h) (Or.inl ⟨by rfl, ?hyc2⟩) (by assumption) ?restc2
          case hyc2 => intro w hSw; (try dsimp only at hSw); (obtain ⟨q0, q1, q2, q3, q4⟩ := hSw); (first | (go_simp; done) | (go_simp; with_reducible rfl) | (with_reducible rfl))
          try simp only [Act.put, List.setIfInBounds_toArray, List.set_cons_zero, List.set_cons_succ]
          refine wpAnyH_take (i := 3) (oi := { dst := some 29, op := Op.move (Operand.tmp 28), type := 4, pos := "l06_manifest.go:205", after := #[{ on := 2, ground := Ground.data }, { on := 1, ground := Ground.chain }], guard := none }) (v := ?vc3) rfl (by kernel_rfl) (by kernel_rfl) (by kernel_rfl) (fun _ _ _ h => h) (Or.inl ⟨by rfl, ?hyc3⟩) (by assumption) ?restc3
          case hyc3 => intro w hSw; (try dsimp only at hSw); (obtain ⟨q0, q1, q2, q3, q4⟩ := hSw); (first | (go_simp; done) | (go_simp; with_reducible rfl) | (with_reducible rfl))
          try simp only [Act.put, List.setIfInBounds_toArray, List.set_cons_zero, List.set_cons_succ]
          refine wpAnyH_take (i := 4) (oi := { dst := some 30, op := Op.fieldAddr 44 (Operand.tmp 7) 1, type := 0, pos := "l06_manifest.go:205", after := #[{ on := 3, ground := Ground.guard }], guard := some (3, false) }) (v := ?vc4) rfl (by kernel_rfl) (by kernel_rfl) (by kernel_rfl) (fun _ _ _ h => h) (Or.inl ⟨by rfl, ?hyc4⟩) (by assumption) ?restc4
          case hyc4 => intro w hSw; (try dsimp only at hSw); (obtain ⟨q0, q1, q2, q3, q4⟩ := hSw); (first | (go_simp; done) | (go_simp; with_reducible rfl) | (with_reducible rfl))
          try simp only [Act.put, List.setIfInBounds_toArray, List.set_cons_zero, List.set_cons_succ]
          refine wpAnyH_take (i := 5) (oi := { dst := some 31, op := Op.load 3 (Operand.tmp 30), type := 3, pos := "l06_manifest.go:205", after := #[{ on := 4, ground := Ground.data }, { on := 3, ground := Ground.guard }], guard := some (3, false) }) (v := ?vc5) rfl (by kernel_rfl) (by kernel_rfl) (by kernel_rfl) (fun _ _ _ h => h) (Or.inl ⟨by rfl, ?hyc5⟩) (by assumption) ?restc5
          case hyc5 => intro w hSw; (try dsimp only at hSw); (obtain ⟨q0, q1, q2, q3, q4⟩ := hSw); (first | (go_simp; done) | (go_simp; with_reducible rfl) | (with_reducible rfl))
          try simp only [Act.put, List.setIfInBounds_toArray, List.set_cons_zero, List.set_cons_succ]
          refine wpAnyH_take (i := 6) (oi := { dst := some 32, op := Op.fieldAddr 44 (Operand.tmp 7) 0, type := 0, pos := "l06_manifest.go:205", after := #[{ on := 3, ground := Ground.guard }], guard := some (3, false) }) (v := ?vc6) rfl (by kernel_rfl) (by kernel_rfl) (by kernel_rfl) (fun _ _ _ h => h) (Or.inl ⟨by rfl, ?hyc6⟩) (by assumption) ?restc6
          case hyc6 => intro w hSw; (try dsimp only at hSw); (obtain ⟨q0, q1, q2, q3, q4⟩ := hSw); (first | (go_simp; done) | (go_simp; with_reducible rfl) | (with_reducible rfl))
          try simp only [Act.put, List.setIfInBounds_toArray, List.set_cons_zero, List.set_cons_succ]
          refine wpAnyH_take (i := 7) (oi := { dst := some 33, op := Op.load 3 (Operand.tmp 32), type := 3, pos := "l06_manifest.go:205", after := #[{ on := 6, ground := Ground.data }, { on := 3, ground := Ground.guard }], guard := some (3, false) }) (v := ?vc7) rfl (by kernel_rfl) (by kernel_rfl) (by kernel_rfl) (fun _ _ _ h => h) (Or.inl ⟨by rfl, ?hyc7⟩) (by assumption) ?restc7
          case hyc7 => intro w hSw; (try dsimp only at hSw); (obtain ⟨q0, q1, q2, q3, q4⟩ := hSw); (first | (go_simp; done) | (go_simp; with_reducible rfl) | (with_reducible rfl))
          try simp only [Act.put, List.setIfInBounds_toArray, List.set_cons_zero, List.set_cons_succ]
          refine wpAnyH_take (i := 8) (oi := { dst := some 34, op := Op.indexAddr 24 (Operand.tmp 5) (Operand.tmp 33), type := 0, pos := "l06_manifest.go:205", after := #[{ on := 7, ground := Ground.data }, { on := 3, ground := Ground.guard }], guard := some (3, false) }) (v := ?vc8) rfl (by kernel_rfl) (by kernel_rfl) (by kernel_rfl) (fun _ _ _ h => h) (Or.inl ⟨by rfl, ?hyc8⟩) (by assumption) ?restc8
          case hyc8 => intro w hSw; (try dsimp only at hSw); (obtain ⟨q0, q1, q2, q3, q4⟩ := hSw); (first | (go_simp; done) | (go_simp; with_reducible rfl) | (with_reducible rfl))
          try simp only [Act.put, List.setIfInBounds_toArray, List.set_cons_zero, List.set_cons_succ]
          refine wpAnyH_take (i := 9) (oi := { dst := some 35, op := Op.load 3 (Operand.tmp 34), type := 3, pos := "l06_manifest.go:205", after := #[{ on := 8, ground := Ground.data }, { on := 3, ground := Ground.guard }], guard := some (3, false) }) (v := ?vc9) rfl (by kernel_rfl) (by kernel_rfl) (by kernel_rfl) (fun _ _ _ h => h) (Or.inl ⟨by rfl, ?hyc9⟩) (by assumption) ?restc9
          case hyc9 => intro w hSw; (try dsimp only at hSw); (obtain ⟨q0, q1, q2, q3, q4⟩ := hSw); (first | (go_simp; done) | (go_simp; with_reducible rfl) | (with_reducible rfl))
          try simp only [Act.put, List.setIfInBounds_toArray, List.set_cons_zero, List.set_cons_succ]
          refine wpAnyH_take (i := 10) (oi := { dst := some 36, op := Op.binOp BinOp.neq 3 (Operand.tmp 31) (Operand.tmp 35) 3, type := 4, pos := "l06_manifest.go:205", after := #[{ on := 5, ground := Ground.data }, { on := 9, ground := Ground.data }, { on := 3, ground := Ground.guard }], guard := some (3, false) }) (v := ?vc10) rfl (by kernel_rfl) (by kernel_rfl) (by kernel_rfl) (fun _ _ _ h => h) (Or.inl ⟨by rfl, ?hyc10⟩) (by assumption) ?restc10
          case hyc10 => intro w hSw; (try dsimp only at hSw); (obtain ⟨q0, q1, q2, q3, q4⟩ := hSw); (first | (go_simp; done) | (go_simp; with_reducible rfl) | (with_reducible rfl))
          try simp only [Act.put, List.setIfInBounds_toArray, List.set_cons_zero, List.set_cons_succ]
          refine wpAnyH_take (i := 11) (oi := { dst := some 37, op := Op.pick (Operand.tmp 29) (Operand.const (Value.bool true)) (Operand.tmp 36), type := 4, pos := "l06_manifest.go:205", after := #[{ on := 3, ground := Ground.data }, { on := 10, ground := Ground.data }], guard := none }) (v := ?vc11) rfl (by kernel_rfl) (by kernel_rfl) (by kernel_rfl) (fun _ _ _ h => h) (Or.inl ⟨by rfl, ?hyc11⟩) (by assumption) ?restc11
          case hyc11 => intro w hSw; (try dsimp only at hSw); (obtain ⟨q0, q1, q2, q3, q4⟩ := hSw); (first | (go_simp; done) | (go_simp; with_reducible rfl) | (with_reducible rfl))
          try simp only [Act.put, List.setIfInBounds_toArray, List.set_cons_zero, List.set_cons_succ]
          refine wpAnyH_done (by kernel_rfl) ?_ _
          refine NoPanic.normal ?_
          have b5 := bA.drew.trans (hb5.mono (by show x0 ≤ WA.heap.size; omega))
          clear hb5 q0 q1 q2 q3 q4 hHeld
          go_wp2
          go_ret
          exact IsBB.no HN.out (by rw [Hx0.out]; exact b5)
        have dn : (bg != (endsOf s.lo (s.ents.take k)).at (j : Int)) = false := by simpa using hbg
        have dn2 : (bg == (endsOf s.lo (s.ents.take k)).at (j : Int)) = true := by simpa using hbg
        have HSU2 := Lib.hid (HSU.out HE.out hbg)
        clear hbg ht HSU HNO
        have HV := Lib.hid (rfl : (endsOf s.lo (s.ents.take k)).at (j : Int) = (endsOf s.lo (s.ents.take k)).at (j : Int))
        generalize (endsOf s.lo (s.ents.take k)).at (j : Int) = v at *
        refine wp_region_noPanic ?_
        refine wp_region_held_drew (S := (fun w' => w'.cell? ⟨z, 0, none⟩ = some (.int .i64 (j : Int)) ∧ w'.cell? ⟨z, 1, none⟩ = some (.int .i64 bg) ∧ w'.cell? ⟨z, 2, none⟩ = some (.int .i64 fi) ∧ w'.cell? ⟨z, 3, none⟩ = some (.string ky) ∧ w'.cell? ⟨y, j, none⟩ = some (.int .i64 (v)))) (by kernel_rfl) (⟨q0, q1, q2, q3, q4⟩) (fun hHeld => ?_)
        refine wpAnyH_take (i := 0) (oi := { dst := some 26, op := Op.load 44 (Operand.tmp 7), type := 44, pos := "l06_manifest.go:205", after := #[], guard := none }) (v := ?vd0) rfl (by kernel_rfl) (by kernel_rfl) (by kernel_rfl) (fun _ _ _ h => h) (Or.inl ⟨by rfl, ?hyd0⟩) (by assumption) ?restd0
        case hyd0 => intro w hSw; (try dsimp only at hSw); (obtain ⟨q0, q1, q2, q3, q4⟩ := hSw); (first | (go_simp; done) | (go_simp; with_reducible rfl) | (with_reducible rfl))
        try simp only [Act.put, List.setIfInBounds_toArray, List.set_cons_zero, List.set_cons_succ]
        refine wpAnyH_ready (rs := [1]) (by kernel_rfl) (by simp) ?_
        refine AllReadyH.cons (o := { dst := some 27, op := Op.call { callee := Callee.value (Operand.func 90), args := #[Operand.tmp 26], argTypes := #[44] }, type := 4, pos := "l06_manifest.go:205", after := #[{ on := 0, ground := Ground.data }], guard := none }) rfl (fun K hK => ?_) AllReadyH.nil
        go_simp
        refine (entRight_b ⟨(j : Int), bg, fi, ky⟩ true (by simp [HE.out]) _ (by have := HK.out; unfold maxLen at this; omega) (HP.out _ bA.drew).1 (HP.out _ bA.drew).2).mono ?_
        rintro e5 w5 ⟨rfl, hb5⟩
        go_wp2_with fail
        refine hK.out _ _ (⟨(hb5.cell (by exact sA)).trans q0, (hb5.cell (by exact sA)).trans q1, (hb5.cell (by exact sA)).trans q2, (hb5.cell (by exact sA)).trans q3, (hb5.cell (p := ⟨y, j, none⟩) (by show y < WA.heap.size; omega)).trans q4⟩) (fun hHeld => ?_)
        clear hK K
        try simp only [Act.put, List.setIfInBounds_toArray, List.set_cons_zero, List.set_cons_succ]
        refine wpAnyH_take (i := 2) (oi := { dst := some 28, op := Op.unOp UnOp.not 4 (Operand.tmp 27), type := 4, pos := "l06_manifest.go:205", after := #[{ on := 1, ground := Ground.data }], guard := none }) (v := ?vd2) rfl (by kernel_rfl) (by kernel_rfl) (by kernel_rfl) (fun _ _ _ h => h) (Or.inl ⟨by rfl, ?hyd2⟩) (by assumption) ?restd2
        case hyd2 => intro w hSw; (try dsimp only at hSw); (obtain ⟨q0, q1, q2, q3, q4⟩ := hSw); (first | (go_simp; done) | (go_simp; with_reducible rfl) | (with_reducible rfl))
        try simp only [Act.put, List.setIfInBounds_toArray, List.set_cons_zero, List.set_cons_succ]
        refine wpAnyH_take (i := 3) (oi := { dst := some 29, op := Op.move (Operand.tmp 28), type := 4, pos := "l06_manifest.go:205", after := #[{ on := 2, ground := Ground.data }, { on := 1, ground := Ground.chain }], guard := none }) (v := ?vd3) rfl (by kernel_rfl) (by kernel_rfl) (by kernel_rfl) (fun _ _ _ h => h) (Or.inl ⟨by rfl, ?hyd3⟩) (by assumption) ?restd3
        case hyd3 => intro w hSw; (try dsimp only at hSw); (obtain ⟨q0, q1, q2, q3, q4⟩ := hSw); (first | (go_simp; done) | (go_simp; with_reducible rfl) | (with_reducible rfl))
        try simp only [Act.put, List.setIfInBounds_toArray, List.set_cons_zero, List.set_cons_succ]
        refine wpAnyH_take (i := 4) (oi := { dst := some 30, op := Op.fieldAddr 44 (Operand.tmp 7) 1, type := 0, pos := "l06_manifest.go:205", after := #[{ on := 3, ground := Ground.guard }], guard := some (3, false) }) (v := ?vd4) rfl (by kernel_rfl) (by kernel_rfl) (by kernel_rfl) (fun _ _ _ h => h) (Or.inl ⟨by rfl, ?hyd4⟩) (by assumption) ?restd4
        case hyd4 => intro w hSw; (try dsimp only at hSw); (obtain ⟨q0, q1, q2, q3, q4⟩ := hSw); (first | (go_simp; done) | (go_simp; with_reducible rfl) | (with_reducible rfl))
        try simp only [Act.put, List.setIfInBounds_toArray, List.set_cons_zero, List.set_cons_succ]
        refine wpAnyH_take (i := 5) (oi := { dst := some 31, op := Op.load 3 (Operand.tmp 30), type := 3, pos := "l06_manifest.go:205", after := #[{ on := 4, ground := Ground.data }, { on := 3, ground := Ground.guard }], guard := some (3, false) }) (v := ?vd5) rfl (by kernel_rfl) (by kernel_rfl) (by kernel_rfl) (fun _ _ _ h => h) (Or.inl ⟨by rfl, ?hyd5⟩) (by assumption) ?restd5
        case hyd5 => intro w hSw; (try dsimp only at hSw); (obtain ⟨q0, q1, q2, q3, q4⟩ := hSw); (first | (go_simp; done) | (go_simp; with_reducible rfl) | (with_reducible rfl))
        try simp only [Act.put, List.setIfInBounds_toArray, List.set_cons_zero, List.set_cons_succ]
        refine wpAnyH_take (i := 6) (oi := { dst := some 32, op := Op.fieldAddr 44 (Operand.tmp 7) 0, type := 0, pos := "l06_manifest.go:205", after := #[{ on := 3, ground := Ground.guard }], guard := some (3, false) }) (v := ?vd6) rfl (by kernel_rfl) (by kernel_rfl) (by kernel_rfl) (fun _ _ _ h => h) (Or.inl ⟨by rfl, ?hyd6⟩) (by assumption) ?restd6
        case hyd6 => intro w hSw; (try dsimp only at hSw); (obtain ⟨q0, q1, q2, q3, q4⟩ := hSw); (first | (go_simp; done) | (go_simp; with_reducible rfl) | (with_reducible rfl))
        try simp only [Act.put, List.setIfInBounds_toArray, List.set_cons_zero, List.set_cons_succ]
        refine wpAnyH_take (i := 7) (oi := { dst := some 33, op := Op.load 3 (Operand.tmp 32), type := 3, pos := "l06_manifest.go:205", after := #[{ on := 6, ground := Ground.data }, { on := 3, ground := Ground.guard }], guard := some (3, false) }) (v := ?vd7) rfl (by kernel_rfl) (by kernel_rfl) (by kernel_rfl) (fun _ _ _ h => h) (Or.inl ⟨by rfl, ?hyd7⟩) (by assumption) ?restd7
        case hyd7 => intro w hSw; (try dsimp only at hSw); (obtain ⟨q0, q1, q2, q3, q4⟩ := hSw); (first | (go_simp; done) | (go_simp; with_reducible rfl) | (with_reducible rfl))
        try simp only [Act.put, List.setIfInBounds_toArray, List.set_cons_zero, List.set_cons_succ]
        refine wpAnyH_take (i := 8) (oi := { dst := some 34, op := Op.indexAddr 24 (Operand.tmp 5) (Operand.tmp 33), type := 0, pos := "l06_manifest.go:205", after := #[{ on := 7, ground := Ground.data }, { on := 3, ground := Ground.guard }], guard := some (3, false) }) (v := ?vd8) rfl (by kernel_rfl) (by kernel_rfl) (by kernel_rfl) (fun _ _ _ h => h) (Or.inl ⟨by rfl, ?hyd8⟩) (by assumption) ?restd8
        case hyd8 => intro w hSw; (try dsimp only at hSw); (obtain ⟨q0, q1, q2, q3, q4⟩ := hSw); (first | (go_simp; done) | (go_simp; with_reducible rfl) | (with_reducible rfl))
        try simp only [Act.put, List.setIfInBounds_toArray, List.set_cons_zero, List.set_cons_succ]
        refine wpAnyH_take (i := 9) (oi := { dst := some 35, op := Op.load 3 (Operand.tmp 34), type := 3, pos := "l06_manifest.go:205", after := #[{ on := 8, ground := Ground.data }, { on := 3, ground := Ground.guard }], guard := some (3, false) }) (v := ?vd9) rfl (by kernel_rfl) (by kernel_rfl) (by kernel_rfl) (fun _ _ _ h => h) (Or.inl ⟨by rfl, ?hyd9⟩) (by assumption) ?restd9
        case hyd9 => intro w hSw; (try dsimp only at hSw); (obtain ⟨q0, q1, q2, q3, q4⟩ := hSw); (first | (go_simp; done) | (go_simp; with_reducible rfl) | (with_reducible rfl))
        try simp only [Act.put, List.setIfInBounds_toArray, List.set_cons_zero, List.set_cons_succ]
        refine wpAnyH_take (i := 10) (oi := { dst := some 36, op := Op.binOp BinOp.neq 3 (Operand.tmp 31) (Operand.tmp 35) 3, type := 4, pos := "l06_manifest.go:205", after := #[{ on := 5, ground := Ground.data }, { on := 9, ground := Ground.data }, { on := 3, ground := Ground.guard }], guard := some (3, false) }) (v := ?vd10) rfl (by kernel_rfl) (by kernel_rfl) (by kernel_rfl) (fun _ _ _ h => h) (Or.inl ⟨by rfl, ?hyd10⟩) (by assumption) ?restd10
        case hyd10 => intro w hSw; (try dsimp only at hSw); (obtain ⟨q0, q1, q2, q3, q4⟩ := hSw); (first | (go_simp; done) | (go_simp; with_reducible rfl) | (with_reducible rfl))
        try simp only [Act.put, List.setIfInBounds_toArray, List.set_cons_zero, List.set_cons_succ]
        refine wpAnyH_take (i := 11) (oi := { dst := some 37, op := Op.pick (Operand.tmp 29) (Operand.const (Value.bool true)) (Operand.tmp 36), type := 4, pos := "l06_manifest.go:205", after := #[{ on := 3, ground := Ground.data }, { on := 10, ground := Ground.data }], guard := none }) (v := ?vd11) rfl (by kernel_rfl) (by kernel_rfl) (by kernel_rfl) (fun _ _ _ h => h) (Or.inl ⟨by rfl, ?hyd11⟩) (by assumption) ?restd11
        case hyd11 => intro w hSw; (try dsimp only at hSw); (obtain ⟨q0, q1, q2, q3, q4⟩ := hSw); (first | (go_simp; done) | (go_simp; with_reducible rfl) | (with_reducible rfl))
        try simp only [Act.put, List.setIfInBounds_toArray, List.set_cons_zero, List.set_cons_succ]
        refine wpAnyH_done (by kernel_rfl) ?_ _
        refine NoPanic.normal ?_
        have b5 := bA.drew.trans (hb5.mono (by show x0 ≤ WA.heap.size; omega))
        have hb5' : Below WA.heap.size WA w5 := (Below.refl _ _).drew.trans hb5
        have TY5 := Lib.hid (TYA.out.below hb5' (by omega))
        have FY5 := Lib.hid (FYA.out.below hb5' (fun b e => by simp [blk] at e; omega))
        have CA5 := Lib.hid (CAA.out.below hb5' (by omega))
        have s5 : z < w5.heap.size := Nat.lt_of_lt_of_le sA hb5'.size
        have r0 : w5.cell? ⟨z, 0, none⟩ = some (.int .i64 (j : Int)) := (hb5'.cell sA).trans q0
        have r2 : w5.cell? ⟨z, 2, none⟩ = some (.int .i64 fi) := (hb5'.cell sA).trans q2
        have r4 : w5.cell? ⟨y, j, none⟩ = some (.int .i64 v) := (hb5'.cell (p := ⟨y, j, none⟩) (by show y < _; omega)).trans q4
        have f4 : w5.frozen? ⟨y, j, none⟩ = false := FY5.out y rfl j
        have TN := Lib.hid (show Tri (w5.setCell ⟨y, j, none⟩ (.int .i64 fi)) y (endsOf s.lo (s.ents.take (k + 1))) by rw [HES.out]; exact tri_set TY5.out hj3 fi)
        have FN := Lib.hid (Free.setCell FY5.out ⟨y, j, none⟩ (.int .i64 fi))
        have CN := Lib.hid (CA5.out.far (p := ⟨y, j, none⟩) (by show x0 ≠ y; omega) (.int .i64 fi))
        have bNN : Below x0 w (w5.setCell ⟨y, j, none⟩ (.int .i64 fi)) := b5.setCell (by show x0 ≤ y; omega) _
        have sN : Hid (y < (w5.setCell ⟨y, j, none⟩ (.int .i64 fi)).heap.size) := Lib.hid (by rw [size_setCell]; omega)
        clear hb5 hb5' TYA FYA CAA bA b5 q0 q1 q2 q3 q4 TY5 FY5 CA5 hHeld dn dn2 HV
        go_wp2
        exact ⟨⟨k + 1, by omega, by go_num, HSU2, TN, FN, CN, sN, bNN⟩, by simp [intOf]; omega⟩
      · obtain rfl : k = s.ents.length := by omega
        obtain ⟨t0, t1, t2, t3, t4, t5, t6, t7, t8, t9⟩ := CA.out.ten
        obtain ⟨y0, y1, y2⟩ := TY.out
        have HI : Hid (SidesP s ↔ endsOf s.lo (s.ents.take s.ents.length) = s.hi) := Lib.hid (by
          rw [List.take_length]
          exact ⟨fun h => h.2.2, fun h => ⟨HLW.out, HD.out, h⟩⟩)
        have k2 := eq3 (endsOf s.lo (s.ents.take s.ents.length)) s.hi _ rfl
        generalize endsOf s.lo (s.ents.take s.ents.length) = V at *
        go_wp2
        go_ret
        exact ⟨_, by rw [HI.out]; simp, rfl, by rw [Hx0.out]; exact hb⟩

end Go.Proofs.YthmpmagajbmpaaaDoor
