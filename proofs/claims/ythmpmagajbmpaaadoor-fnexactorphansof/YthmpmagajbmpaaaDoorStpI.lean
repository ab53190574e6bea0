/-
  Contracts of the program's (State).size, restsRight, keys, sideBySide. Conditions: the program's table of paths is as its text lays it; lengths.
-/
import Derived.Test.YthmpmagajbmpaaaDoorStp
import Derived.Deep.RegionHeld3
namespace Go.Proofs.YthmpmagajbmpaaaDoor
open Go.ChangeShapes Go.WideShapes Go.ChangeAt Go.RowKit Go.Deep Go.Joins Go.Maps
set_option linter.unusedVariables false
set_option linter.unusedSimpArgs false

theorem stSize_any (A : Option Addr) (c : Nat) (A2 : Option Addr) (c2 : Nat) (s : GSt) (w : World) (hl : s.ents.length ≤ 1048576) (hl2 : s.tmbs.length ≤ 1048576) : Calls Tryd.prog 71 #[.agg #[.int .i64 s.sq, .int .i64 s.fe, .slice A s.ents.length c, .slice A2 s.tmbs.length c2, .int .i64 s.lo.a, .int .i64 s.lo.b, .int .i64 s.lo.c, .int .i64 s.hi.a, .int .i64 s.hi.b, .int .i64 s.hi.c]] w fun e w' => e = .returned (.int .i64 ((s.ents.length + s.tmbs.length : Nat) : Int)) ∧ Below w.heap.size w w' := by
  have wz : wrap64 ((s.ents.length : Int) + (s.tmbs.length : Int)) = ((s.ents.length + s.tmbs.length : Nat) : Int) := by unfold wrap64; omega
  go_enter Tryd.func71, Tryd.ntmps71
  go_wp2
  go_ret
  exact ⟨by simp <;> omega, bal (Below.refl _ _) _⟩

set_option maxRecDepth 100000 in
theorem restsRight_any (A : Option Addr) (c : Nat) (A2 : Option Addr) (c2 : Nat) (s : GSt) (B : Nat) (w : World) (h : StAt w B A A2 s) (hB : B ≤ w.heap.size) (hf : ∀ o ∈ s.tmbs, o.fit) (hl2 : s.tmbs.length ≤ 1048576) (hp : Paths w) (hz : 2 < w.heap.size) : Calls Tryd.prog 73 #[.agg #[.int .i64 s.sq, .int .i64 s.fe, .slice A s.ents.length c, .slice A2 s.tmbs.length c2, .int .i64 s.lo.a, .int .i64 s.lo.b, .int .i64 s.lo.c, .int .i64 s.hi.a, .int .i64 s.hi.b, .int .i64 s.hi.c]] w (IsBB (RestP s.sq s.tmbs s.tmbs.length) w) := by
  have H := Lib.hid h; clear h
  have Hf := Lib.hid hf; clear hf
  have HP : Hid (∀ w', Below w.heap.size w w' → Paths w' ∧ 2 < w'.heap.size) := Lib.hid (fun w' h => ⟨hp.below h hz, Nat.lt_of_lt_of_le hz h.size⟩)
  clear hp
  go_enter Tryd.func73, Tryd.ntmps73
  go_wp2_with fail
  have CA : Hid (Cells (w.alloc (.cells #[.int .i64 s.sq, .int .i64 s.fe, .slice A s.ents.length c, .slice A2 s.tmbs.length c2, .int .i64 s.lo.a, .int .i64 s.lo.b, .int .i64 s.lo.c, .int .i64 s.hi.a, .int .i64 s.hi.b, .int .i64 s.hi.c] 33)) w.heap.size 0 [.int .i64 s.sq, .int .i64 s.fe, .slice A s.ents.length c, .slice A2 s.tmbs.length c2, .int .i64 s.lo.a, .int .i64 s.lo.b, .int .i64 s.lo.c, .int .i64 s.hi.a, .int .i64 s.hi.b, .int .i64 s.hi.c]) := Lib.hid (Cells.new w _ _)
  have b0 : Below w.heap.size w (w.alloc (.cells #[.int .i64 s.sq, .int .i64 s.fe, .slice A s.ents.length c, .slice A2 s.tmbs.length c2, .int .i64 s.lo.a, .int .i64 s.lo.b, .int .i64 s.lo.c, .int .i64 s.hi.a, .int .i64 s.hi.b, .int .i64 s.hi.c] 33)) := bal (Below.refl _ _) _
  have s0 : w.heap.size < (w.alloc (.cells #[.int .i64 s.sq, .int .i64 s.fe, .slice A s.ents.length c, .slice A2 s.tmbs.length c2, .int .i64 s.lo.a, .int .i64 s.lo.b, .int .i64 s.lo.c, .int .i64 s.hi.a, .int .i64 s.hi.b, .int .i64 s.hi.c] 33)).heap.size := by simp
  generalize w.alloc (.cells #[.int .i64 s.sq, .int .i64 s.fe, .slice A s.ents.length c, .slice A2 s.tmbs.length c2, .int .i64 s.lo.a, .int .i64 s.lo.b, .int .i64 s.lo.c, .int .i64 s.hi.a, .int .i64 s.hi.b, .int .i64 s.hi.c] 33) = W at *
  generalize hx0 : w.heap.size = x0 at *
  have Hx0 := Lib.hid hx0; clear hx0
  obtain ⟨t0, t1, t2, t3, t4, t5, t6, t7, t8, t9⟩ := CA.out.ten
  go_wp2_with fail
  go_loopw [8] (fun i wr => ∃ k : Nat, k ≤ s.tmbs.length ∧ i = .int .i64 k ∧ Hid (RestP s.sq s.tmbs k) ∧ Hid (Cells wr x0 0 [.int .i64 s.sq, .int .i64 s.fe, .slice A s.ents.length c, .slice A2 s.tmbs.length c2, .int .i64 s.lo.a, .int .i64 s.lo.b, .int .i64 s.lo.c, .int .i64 s.hi.a, .int .i64 s.hi.b, .int .i64 s.hi.c]) ∧ Hid (x0 < wr.heap.size) ∧ Below x0 w wr) (fun i _ => s.tmbs.length - (intOf i).toNat)
  case atStart => exact ⟨0, by omega, rfl, Lib.hid (fun k hk => by omega), CA, Lib.hid s0, b0⟩
  case round =>
    clear CA b0 s0 t0 t1 t2 t3 t4 t5 t6 t7 t8 t9
    obtain ⟨k, hk, rfl, HR, CA, HS, hb⟩ := hrel
    by_cases hlt : k < s.tmbs.length
    · obtain ⟨b1, o1, rfl, hb1, p0, p1⟩ := TmbsAt.one (Sl.below H.out.2 hb (by have := Hx0.out; omega)) hlt
      obtain ⟨t0, t1, t2, t3, t4, t5, t6, t7, t8, t9⟩ := CA.out.ten
      have hfit := Hf.out _ (List.getElem_mem hlt)
      have Hfit := Lib.hid hfit.2; clear hfit
      have hxs : x0 < wr.heap.size := HS.out
      cases hin : inB s.tmbs[k].seq 1 s.sq
      · have HN := Lib.hid (show ¬ RestP s.sq s.tmbs s.tmbs.length from fun h => by
          have := (h k hlt hlt).1
          rw [← inB_iff, hin] at this
          cases this)
        go_wp2_with (go_at_call 70; refine (within_any _ _ _ _).mono ?_; rintro e w' ⟨rfl, rfl⟩)
        go_ret
        exact IsBB.no HN.out (by rw [Hx0.out]; exact hb.alloc (by have := hb.size; have := Hx0.out; omega) _)
      have HIN := Lib.hid (inB_iff.1 hin)
      go_wp2_with (go_at_call 70; refine (within_any _ _ _ _).mono ?_; rintro e w' ⟨rfl, rfl⟩)
      have hbA : Below x0 w (wr.alloc (.cells #[.int .i64 s.tmbs[k].seq, .string s.tmbs[k].key] 98)) := hb.alloc (by have := hb.size; have := Hx0.out; omega) _
      have CA2 := Lib.hid (CA.out.below (bal (Below.refl _ wr) (.cells #[.int .i64 s.tmbs[k].seq, .string s.tmbs[k].key] 98)) HS.out)
      have HS2 := Lib.hid (show x0 < (wr.alloc (.cells #[.int .i64 s.tmbs[k].seq, .string s.tmbs[k].key] 98)).heap.size by have := HS.out; simp; omega)
      clear hin p0 p1 t0 t1 t2 t3 t4 t5 t6 t7 t8 t9 CA HS
      generalize wr.alloc (.cells #[.int .i64 s.tmbs[k].seq, .string s.tmbs[k].key] 98) = W2 at *
      refine (isDataKey_any s.tmbs[k].key W2 (by have := Hfit.out; unfold maxLen at this; omega) (HP.out _ hbA).1 (HP.out _ hbA).2).mono ?_
      rintro e w3 ⟨b, hbk, rfl, hb3⟩
      have b3 : Below x0 w w3 := hbA.trans (hb3.mono (Nat.le_of_lt HS2.out))
      have CA3 := Lib.hid (CA2.out.below hb3 HS2.out)
      have HS3 := Lib.hid (Nat.lt_of_lt_of_le HS2.out hb3.size)
      clear hb3 CA2 HS2 hbA
      cases b
      · have HN := Lib.hid (show ¬ RestP s.sq s.tmbs s.tmbs.length from fun h => by have := hbk.2 (h k hlt hlt).2; cases this)
        clear hbk
        go_wp2
        go_ret
        exact IsBB.no HN.out (by rw [Hx0.out]; exact b3)
      · have HR2 := Lib.hid (HR.out.succ hlt ⟨HIN.out, hbk.1 rfl⟩)
        clear hbk HR
        go_wp2
        go_roundw
        case rel => exact ⟨k + 1, by omega, by go_num, HR2, CA3, HS3, b3⟩
        case measure => simp [intOf]; omega
    · obtain rfl : k = s.tmbs.length := by omega
      go_wp2
      go_ret
      exact IsBB.yes HR.out (by rw [Hx0.out]; exact hb)

set_option maxRecDepth 100000 in
theorem stKeys_any (A : Option Addr) (c : Nat) (A2 : Option Addr) (c2 : Nat) (s : GSt) (B : Nat) (w : World) (h : StAt w B A A2 s) (hB : B ≤ w.heap.size) (hf : ∀ o ∈ s.ents, o.fit) (hf2 : ∀ o ∈ s.tmbs, o.fit) (hl : s.ents.length ≤ 1048576) (hl2 : s.tmbs.length ≤ 1048576) : Calls Tryd.prog 56 #[.agg #[.int .i64 s.sq, .int .i64 s.fe, .slice A s.ents.length c, .slice A2 s.tmbs.length c2, .int .i64 s.lo.a, .int .i64 s.lo.b, .int .i64 s.lo.c, .int .i64 s.hi.a, .int .i64 s.hi.b, .int .i64 s.hi.c]] w fun e w' => ∃ m, e = .returned (.map (some m)) ∧ TxtSet w' m (keysR s.ents s.tmbs s.ents.length s.tmbs.length) ∧ w.heap.size ≤ m ∧ Below w.heap.size w w' := by
  have H := Lib.hid h; clear h
  have Hf := Lib.hid hf; clear hf
  have Hf2 := Lib.hid hf2; clear hf2
  obtain ⟨n, hn⟩ : ∃ n : Int, n = ((s.ents.length + s.tmbs.length : Nat) : Int) := ⟨_, rfl⟩
  have hcs := fun W => stSize_any A c A2 c2 s W hl hl2
  rw [← hn] at hcs
  have HCS := Lib.hid hcs; clear hcs hn
  have hmk := run_makeTxtSet n
  go_enter Tryd.func56, Tryd.ntmps56
  go_wp2_with fail
  have CA : Hid (Cells (w.alloc (.cells #[.int .i64 s.sq, .int .i64 s.fe, .slice A s.ents.length c, .slice A2 s.tmbs.length c2, .int .i64 s.lo.a, .int .i64 s.lo.b, .int .i64 s.lo.c, .int .i64 s.hi.a, .int .i64 s.hi.b, .int .i64 s.hi.c] 33)) w.heap.size 0 [.int .i64 s.sq, .int .i64 s.fe, .slice A s.ents.length c, .slice A2 s.tmbs.length c2, .int .i64 s.lo.a, .int .i64 s.lo.b, .int .i64 s.lo.c, .int .i64 s.hi.a, .int .i64 s.hi.b, .int .i64 s.hi.c]) := Lib.hid (Cells.new w _ _)
  have b0 : Below w.heap.size w (w.alloc (.cells #[.int .i64 s.sq, .int .i64 s.fe, .slice A s.ents.length c, .slice A2 s.tmbs.length c2, .int .i64 s.lo.a, .int .i64 s.lo.b, .int .i64 s.lo.c, .int .i64 s.hi.a, .int .i64 s.hi.b, .int .i64 s.hi.c] 33)) := bal (Below.refl _ _) _
  have s0 : w.heap.size < (w.alloc (.cells #[.int .i64 s.sq, .int .i64 s.fe, .slice A s.ents.length c, .slice A2 s.tmbs.length c2, .int .i64 s.lo.a, .int .i64 s.lo.b, .int .i64 s.lo.c, .int .i64 s.hi.a, .int .i64 s.hi.b, .int .i64 s.hi.c] 33)).heap.size := by simp
  generalize w.alloc (.cells #[.int .i64 s.sq, .int .i64 s.fe, .slice A s.ents.length c, .slice A2 s.tmbs.length c2, .int .i64 s.lo.a, .int .i64 s.lo.b, .int .i64 s.lo.c, .int .i64 s.hi.a, .int .i64 s.hi.b, .int .i64 s.hi.c] 33) = W at *
  generalize hx0 : w.heap.size = x0 at *
  have Hx0 := Lib.hid hx0; clear hx0
  obtain ⟨t0, t1, t2, t3, t4, t5, t6, t7, t8, t9⟩ := CA.out.ten
  refine (HCS.out W).mono ?_
  rintro e w1 ⟨rfl, hb1⟩
  have CA1 := Lib.hid (CA.out.below hb1 s0)
  have b1 : Below x0 w w1 := b0.trans (hb1.mono (Nat.le_of_lt s0))
  have s1 : x0 < w1.heap.size := Nat.lt_of_lt_of_le s0 hb1.size
  clear CA b0 s0 hb1 t0 t1 t2 t3 t4 t5 t6 t7 t8 t9
  obtain ⟨t0, t1, t2, t3, t4, t5, t6, t7, t8, t9⟩ := CA1.out.ten
  go_wp2_with fail
  clear t0 t1 t2 t3 t4 t5 t6 t7 t8 t9
  have M2 := Lib.hid (TxtSet.made w1)
  have b2 : Below x0 w (w1.alloc (.map #[] 0)) := b1.alloc (Nat.le_of_lt s1) _
  have CA2 := Lib.hid (CA1.out.below (bal (Below.refl _ w1) (.map #[] 0)) s1)
  have hm : w1.heap.size < (w1.alloc (.map #[] 0)).heap.size := by simp
  generalize w1.alloc (.map #[] 0) = W2 at *
  obtain ⟨m, hm0⟩ : ∃ m, m = w1.heap.size := ⟨_, rfl⟩
  rw [← hm0] at M2 hm s1 ⊢
  clear hm0 CA1 b1 hmk
  go_loopw [14] (fun i wr => ∃ k : Nat, k ≤ s.ents.length ∧ i = .int .i64 k ∧ Hid (TxtSet wr m (keysR s.ents s.tmbs k 0)) ∧ Hid (Cells wr x0 0 [.int .i64 s.sq, .int .i64 s.fe, .slice A s.ents.length c, .slice A2 s.tmbs.length c2, .int .i64 s.lo.a, .int .i64 s.lo.b, .int .i64 s.lo.c, .int .i64 s.hi.a, .int .i64 s.hi.b, .int .i64 s.hi.c]) ∧ Hid (m < wr.heap.size) ∧ Below x0 w wr) (fun i _ => s.ents.length - (intOf i).toNat)
  case atStart => exact ⟨0, by omega, rfl, Lib.hid (by simpa [keysR] using M2.out), CA2, Lib.hid hm, b2⟩
  case round =>
    clear CA2 b2 hm M2
    obtain ⟨k, hk, rfl, HM, CA, HS, hb⟩ := hrel
    by_cases hlt : k < s.ents.length
    · obtain ⟨b1, o1, rfl, hb1, p0, p1, p2, p3⟩ := EntsAt.one (Sl.below H.out.1 hb (by have := Hx0.out; omega)) hlt
      have hfit := (Hf.out _ (List.getElem_mem hlt)).2.2.2
      have Hfit := Lib.hid hfit; clear hfit
      have bA : Below x0 w (wr.alloc (.cells #[.int .i64 s.ents[k].tier, .int .i64 s.ents[k].beg, .int .i64 s.ents[k].fin, .string s.ents[k].key] 44)) := hb.alloc (by have := HS.out; omega) _
      have CAA := Lib.hid (CA.out.below (bal (Below.refl _ wr) (.cells #[.int .i64 s.ents[k].tier, .int .i64 s.ents[k].beg, .int .i64 s.ents[k].fin, .string s.ents[k].key] 44)) (by have := HS.out; omega))
      have MA := HM.out.below (bal (Below.refl _ wr) (.cells #[.int .i64 s.ents[k].tier, .int .i64 s.ents[k].beg, .int .i64 s.ents[k].fin, .string s.ents[k].key] 44))
      have hsA : m < (wr.alloc (.cells #[.int .i64 s.ents[k].tier, .int .i64 s.ents[k].beg, .int .i64 s.ents[k].fin, .string s.ents[k].key] 44)).heap.size := by have := HS.out; simp; omega
      obtain ⟨D, hown, hat, hh, hz1, hz2⟩ := MA
      have Hown := Lib.hid hown; have Hat := Lib.hid hat; have Hh := Lib.hid hh; have Hz1 := Lib.hid hz1; have Hz2 := Lib.hid hz2
      have Hsz := Lib.hid (show (keysR s.ents s.tmbs k 0).length < maxLen by rw [keysR_len _ _ _ _ hk (Nat.zero_le _)]; unfold maxLen; omega)
      have BA := Lib.hid bA; have SA := Lib.hid hsA
      clear hown hat hh hz1 hz2 HM CA HS hb bA hsA
      go_wp2_with (at_mapUpdate; refine wpList_mapUpdate_own _ rfl _ _ _ 82 rfl 9 4 txtKeyed Tryd.underlying82 _ m _ D rfl (by exact Hown.out) Hsz.out _ _ _ rfl rfl (WideMaps.keyOf_string_mk Tryd.underlying9 (by simpa using Hfit.out)) _ [] (plainElem_bool Tryd.underlying4 true) ?_; intro w3 hown3 hg3)
      have hg3' : World.grownBy (wr.alloc (.cells #[.int .i64 s.ents[k].tier, .int .i64 s.ents[k].beg, .int .i64 s.ents[k].fin, .string s.ents[k].key] 44)) w3 (some m) := ⟨hg3.os, hg3.tape, hg3.output, hg3.size, hg3.block⟩
      have HM3 := Lib.hid (show TxtSet w3 m (keysR s.ents s.tmbs (k + 1) 0) by rw [keysR_ent _ _ _ hlt]; exact TxtSet.put rfl Hown.out Hat.out Hh.out Hz1.out Hz2.out hown3)
      have CA3 := Lib.hid (CAA.out.grown hg3' (by have := SA.out; omega) (by omega))
      have HS3 := Lib.hid (Nat.lt_of_lt_of_le SA.out hg3'.size)
      have b3 : Below x0 w w3 := BA.out.trans (below_of_grown hg3' (by have := SA.out; omega) (fun g e => by injection e with e; omega))
      clear hown3 hg3 hg3' CAA Hown Hat Hh Hz1 Hz2 BA SA
      go_wp2
      go_roundw
      case rel => exact ⟨k + 1, by omega, by go_num, HM3, CA3, HS3, b3⟩
      case measure => simp [intOf]; omega
    · obtain rfl : k = s.ents.length := by omega
      obtain ⟨t0, t1, t2, t3, t4, t5, t6, t7, t8, t9⟩ := CA.out.ten
      go_wp2_with fail
      go_loopw [25] (fun i wr => ∃ k : Nat, k ≤ s.tmbs.length ∧ i = .int .i64 k ∧ Hid (TxtSet wr m (keysR s.ents s.tmbs s.ents.length k)) ∧ Hid (m < wr.heap.size) ∧ Below x0 w wr) (fun i _ => s.tmbs.length - (intOf i).toNat)
      case atStart => exact ⟨0, by omega, rfl, HM, HS, hb⟩
      case round =>
        clear CA hb HM HS t0 t1 t2 t3 t4 t5 t6 t7 t8 t9
        obtain ⟨k, hk, rfl, HM, HS, hb⟩ := hrel
        by_cases hlt : k < s.tmbs.length
        · obtain ⟨b1, o1, rfl, hb1, p0, p1⟩ := TmbsAt.one (Sl.below H.out.2 hb (by have := Hx0.out; omega)) hlt
          have hfit := (Hf2.out _ (List.getElem_mem hlt)).2
          have Hfit := Lib.hid hfit; clear hfit
          have bA : Below x0 w (wr.alloc (.cells #[.int .i64 s.tmbs[k].seq, .string s.tmbs[k].key] 98)) := hb.alloc (by have := HS.out; omega) _
          have MA := HM.out.below (bal (Below.refl _ wr) (.cells #[.int .i64 s.tmbs[k].seq, .string s.tmbs[k].key] 98))
          have hsA : m < (wr.alloc (.cells #[.int .i64 s.tmbs[k].seq, .string s.tmbs[k].key] 98)).heap.size := by have := HS.out; simp; omega
          obtain ⟨D, hown, hat, hh, hz1, hz2⟩ := MA
          have Hown := Lib.hid hown; have Hat := Lib.hid hat; have Hh := Lib.hid hh; have Hz1 := Lib.hid hz1; have Hz2 := Lib.hid hz2
          have Hsz := Lib.hid (show (keysR s.ents s.tmbs s.ents.length k).length < maxLen by rw [keysR_len _ _ _ _ (Nat.le_refl _) hk]; unfold maxLen; omega)
          have BA := Lib.hid bA; have SA := Lib.hid hsA
          clear hown hat hh hz1 hz2 HM HS hb bA hsA
          go_wp2_with (at_mapUpdate; refine wpList_mapUpdate_own _ rfl _ _ _ 82 rfl 9 4 txtKeyed Tryd.underlying82 _ m _ D rfl (by exact Hown.out) Hsz.out _ _ _ rfl rfl (WideMaps.keyOf_string_mk Tryd.underlying9 (by simpa using Hfit.out)) _ [] (plainElem_bool Tryd.underlying4 true) ?_; intro w3 hown3 hg3)
          have hg3' : World.grownBy (wr.alloc (.cells #[.int .i64 s.tmbs[k].seq, .string s.tmbs[k].key] 98)) w3 (some m) := ⟨hg3.os, hg3.tape, hg3.output, hg3.size, hg3.block⟩
          have HM3 := Lib.hid (show TxtSet w3 m (keysR s.ents s.tmbs s.ents.length (k + 1)) by rw [keysR_tmb _ _ _ _ hlt]; exact TxtSet.put rfl Hown.out Hat.out Hh.out Hz1.out Hz2.out hown3)
          have HS3 := Lib.hid (Nat.lt_of_lt_of_le SA.out hg3'.size)
          have b3 : Below x0 w w3 := BA.out.trans (below_of_grown hg3' (by have := SA.out; omega) (fun g e => by injection e with e; omega))
          clear hown3 hg3 hg3' Hown Hat Hh Hz1 Hz2 BA SA
          go_wp2
          go_roundw
          case rel => exact ⟨k + 1, by omega, by go_num, HM3, HS3, b3⟩
          case measure => simp [intOf]; omega
        · obtain rfl : k = s.tmbs.length := by omega
          go_wp2
          go_ret
          exact ⟨m, rfl, HM.out, by rw [Hx0.out]; omega, by rw [Hx0.out]; exact hb⟩

end Go.Proofs.YthmpmagajbmpaaaDoor
