/-
  Contract of the program's DueWindow. Conditions: the program's tables of paths and of widths are as their texts lay them; lengths.
-/
import Derived.Test.YthmpmagajbmpaaaDoorStpK
import Derived.Test.YthmpmagajbmpaaaDoorDue
import Derived.Test.YthmpmagajbmpaaaDoorTierA
namespace Go.Proofs.YthmpmagajbmpaaaDoor
open Go.ChangeShapes Go.WideShapes Go.ChangeAt Go.RowKit Go.Deep Go.Joins Go.Maps
set_option linter.unusedVariables false
set_option linter.unusedSimpArgs false


theorem dueFits1 (x0 : Nat) (A A2 : Option Addr) (c c2 : Nat) (s : GSt) (w : World) (h : Cells w x0 0 [.int .i64 s.sq, .int .i64 s.fe, .slice A s.ents.length c, .slice A2 s.tmbs.length c2, .int .i64 s.lo.a, .int .i64 s.lo.b, .int .i64 s.lo.c, .int .i64 s.hi.a, .int .i64 s.hi.b, .int .i64 s.hi.c]) (hi : TriIn s.hi 0 100000) (ht : Tab3 0 wid w) :
    Calls Tryd.prog 40 #[.int .i64 1, .pointer (some ⟨x0, 0, none⟩)] w fun e w' => e = .returned (.bool (decide (s.hi.b + 5 ≤ s.hi.a))) ∧ Below w.heap.size w w' := by
  obtain ⟨c0, c1, c2, c3, c4, c5, c6, c7, c8, c9⟩ := h.ten
  have t1 : w.cell? ⟨0, 1, none⟩ = some (.int .i64 5) := ht 1 (by omega)
  have hw : wrap64 (s.hi.b + 5) = s.hi.b + 5 := by have := hi.2.1; unfold wrap64; omega
  clear h ht c0 c1 c2 c3 c4 c5 c6
  go_enter Tryd.func40, Tryd.ntmps40
  go_wp2_with fail
  go_quiet (fail)
  go_wp2
  go_ret
  exact ⟨rfl, bdrewB (Below.refl _ _) _⟩

theorem dueFits2 (x0 : Nat) (A A2 : Option Addr) (c c2 : Nat) (s : GSt) (w : World) (h : Cells w x0 0 [.int .i64 s.sq, .int .i64 s.fe, .slice A s.ents.length c, .slice A2 s.tmbs.length c2, .int .i64 s.lo.a, .int .i64 s.lo.b, .int .i64 s.lo.c, .int .i64 s.hi.a, .int .i64 s.hi.b, .int .i64 s.hi.c]) (hi : TriIn s.hi 0 100000) (ht : Tab3 0 wid w) :
    Calls Tryd.prog 40 #[.int .i64 2, .pointer (some ⟨x0, 0, none⟩)] w fun e w' => e = .returned (.bool (decide (s.hi.c + 20 ≤ s.hi.b))) ∧ Below w.heap.size w w' := by
  obtain ⟨c0, c1, c2, c3, c4, c5, c6, c7, c8, c9⟩ := h.ten
  have t1 : w.cell? ⟨0, 2, none⟩ = some (.int .i64 20) := ht 2 (by omega)
  have hw : wrap64 (s.hi.c + 20) = s.hi.c + 20 := by have := hi.2.2; unfold wrap64; omega
  clear h ht c0 c1 c2 c3 c4 c5 c6
  go_enter Tryd.func40, Tryd.ntmps40
  go_wp2_with fail
  go_quiet (fail)
  go_wp2
  go_ret
  exact ⟨rfl, bdrewB (Below.refl _ _) _⟩

set_option maxRecDepth 100000 in
theorem firstDue (x0 g : Nat) (A A2 : Option Addr) (c c2 : Nat) (s : GSt) (w : World) (h : Cells w x0 0 [.int .i64 s.sq, .int .i64 s.fe, .slice A s.ents.length c, .slice A2 s.tmbs.length c2, .int .i64 s.lo.a, .int .i64 s.lo.b, .int .i64 s.lo.c, .int .i64 s.hi.a, .int .i64 s.hi.b, .int .i64 s.hi.c]) (hx : x0 < w.heap.size) (hi : TriIn s.hi 0 100000) (ht : Tab3 0 wid w) (hz : 0 < w.heap.size) (hg : g < w.heap.size) (g0 : w.cell? ⟨g, 0, none⟩ = some (.int .i64 1)) (g1 : w.cell? ⟨g, 1, none⟩ = some (.int .i64 2)) :
    Calls Tryd.prog 39 #[.slice (some ⟨g, 0, none⟩) 2 2, .func (.func 40) #[] #[.pointer (some ⟨x0, 0, none⟩)]] w fun e w' => e = .returned (.tuple #[.int .i64 (dueV s).1, .bool (dueV s).2.2]) ∧ Below w.heap.size w w' := by
  have H := Lib.hid h; clear h
  have HT := Lib.hid ht; clear ht
  have HI := Lib.hid hi; clear hi
  have HX := Lib.hid hx; have HZ := Lib.hid hz; clear hx hz
  have F1 : Hid (∀ w', Below w.heap.size w w' → Calls Tryd.prog 40 #[.int .i64 1, .pointer (some ⟨x0, 0, none⟩)] w' fun e w'' => e = .returned (.bool (decide (s.hi.b + 5 ≤ s.hi.a))) ∧ Below w'.heap.size w' w'') := Lib.hid fun w' hb => dueFits1 x0 A A2 c c2 s w' (H.out.below hb HX.out) HI.out (HT.out.below hb HZ.out)
  have F2 : Hid (∀ w', Below w.heap.size w w' → Calls Tryd.prog 40 #[.int .i64 2, .pointer (some ⟨x0, 0, none⟩)] w' fun e w'' => e = .returned (.bool (decide (s.hi.c + 20 ≤ s.hi.b))) ∧ Below w'.heap.size w' w'') := Lib.hid fun w' hb => dueFits2 x0 A A2 c c2 s w' (H.out.below hb HX.out) HI.out (HT.out.below hb HZ.out)
  have V1 : Hid (s.hi.b + 5 ≤ s.hi.a → dueV s = (1, s.hi.b, true)) := Lib.hid fun h => by simp [dueV, h]
  have V2 : Hid (¬ s.hi.b + 5 ≤ s.hi.a → s.hi.c + 20 ≤ s.hi.b → dueV s = (2, s.hi.c, true)) := Lib.hid fun h1 h => by simp [dueV, h, h1]
  have V3 : Hid (¬ s.hi.b + 5 ≤ s.hi.a → ¬ s.hi.c + 20 ≤ s.hi.b → dueV s = (0, 0, false)) := Lib.hid fun h1 h => by simp [dueV, h, h1]
  clear H HT HI HX HZ
  have G0 : Hid (∀ w', Below w.heap.size w w' → w'.cell? ⟨g, 0, none⟩ = some (.int .i64 1)) := Lib.hid fun w' hb => (hb.cell (p := ⟨g, 0, none⟩) hg).trans g0
  have G1 : Hid (∀ w', Below w.heap.size w w' → w'.cell? ⟨g, 1, none⟩ = some (.int .i64 2)) := Lib.hid fun w' hb => (hb.cell (p := ⟨g, 1, none⟩) hg).trans g1
  clear g0 g1
  obtain ⟨B1, hB1⟩ : ∃ b, b = decide (s.hi.b + 5 ≤ s.hi.a) := ⟨_, rfl⟩
  obtain ⟨B2, hB2⟩ : ∃ b, b = decide (s.hi.c + 20 ≤ s.hi.b) := ⟨_, rfl⟩
  have h1 : B1 = true ↔ s.hi.b + 5 ≤ s.hi.a := by rw [hB1]; simp
  have h2 : B2 = true ↔ s.hi.c + 20 ≤ s.hi.b := by rw [hB2]; simp
  rw [← hB1] at F1
  rw [← hB2] at F2
  rw [← h1] at V1
  rw [← h1, ← h2] at V2 V3
  clear hB1 hB2 h1 h2
  go_enter Tryd.func39, Tryd.ntmps39
  go_wp2_with fail
  go_loopw [11] (fun i wr => ∃ k : Nat, k ≤ 2 ∧ i = .int .i64 k ∧ Hid (1 ≤ k → B1 = false) ∧ Hid (2 ≤ k → B2 = false) ∧ Below w.heap.size w wr) (fun i _ => 2 - (intOf i).toNat)
  case atStart => exact ⟨0, by omega, rfl, Lib.hid (by omega), Lib.hid (by omega), Below.refl _ _⟩
  case round =>
    obtain ⟨k, hk, rfl, hk1, hk2, hb⟩ := hrel
    rcases (show k = 0 ∨ k = 1 ∨ k = 2 by omega) with rfl | rfl | rfl
    · have q := G0.out wr hb
      clear hk1 hk2
      go_wp2_with fail
      refine (F1.out _ hb).mono ?_
      rintro e w1 ⟨rfl, hb1⟩
      have b1 := bnext hb hb1
      cases hB : B1
      · go_wp2_with fail
        go_roundw
        case rel => exact ⟨1, by omega, rfl, Lib.hid (fun _ => hB), Lib.hid (by omega), b1⟩
        case measure => simp [intOf]
      · have E := V1.out hB
        go_wp2
        refine bodyPost_ret (v := .tuple #[.int .i64 (dueV s).1, .bool (dueV s).2.2]) (by rw [E]; simp [results, Tryd.results39, go_sem]) rfl ⟨rfl, b1⟩
    · have q := G1.out wr hb
      have n1 := hk1.out (by omega)
      clear hk1 hk2
      go_wp2_with fail
      refine (F2.out _ hb).mono ?_
      rintro e w1 ⟨rfl, hb1⟩
      have b1 := bnext hb hb1
      cases hB : B2
      · go_wp2_with fail
        go_roundw
        case rel => exact ⟨2, by omega, rfl, Lib.hid (fun _ => n1), Lib.hid (fun _ => hB), b1⟩
        case measure => simp [intOf]
      · have E := V2.out (by simp [n1]) hB
        go_wp2
        refine bodyPost_ret (v := .tuple #[.int .i64 (dueV s).1, .bool (dueV s).2.2]) (by rw [E]; simp [results, Tryd.results39, go_sem]) rfl ⟨rfl, b1⟩
    · have E := V3.out (by simp [hk1.out (by omega)]) (by simp [hk2.out (by omega)])
      go_wp2
      refine bodyPost_ret (v := .tuple #[.int .i64 (dueV s).1, .bool (dueV s).2.2]) (by rw [E]; simp [results, Tryd.results39, go_sem]) rfl ⟨rfl, hb⟩

set_option maxRecDepth 100000 in
set_option maxHeartbeats 1000000 in
theorem dueWindow_any (A : Option Addr) (c : Nat) (A2 : Option Addr) (c2 : Nat) (s : GSt) (B : Nat) (w : World) (h : StAt w B A A2 s) (hB : B ≤ w.heap.size) (hf : ∀ o ∈ s.ents, o.fit) (hf2 : ∀ o ∈ s.tmbs, o.fit) (hl : s.ents.length ≤ 1048576) (hl2 : s.tmbs.length ≤ 1048576) (hp : Paths w) (hz : 2 < w.heap.size) (ht : Tab3 0 wid w) (hz2 : 0 < w.heap.size) :
    Calls Tryd.prog 11 #[.agg #[.int .i64 s.sq, .int .i64 s.fe, .slice A s.ents.length c, .slice A2 s.tmbs.length c2, .int .i64 s.lo.a, .int .i64 s.lo.b, .int .i64 s.lo.c, .int .i64 s.hi.a, .int .i64 s.hi.b, .int .i64 s.hi.c]] w (DueR s w) := by
  have H := Lib.hid h; clear h
  have Hf := Lib.hid hf; clear hf
  have Hf2 := Lib.hid hf2; clear hf2
  have HP : Hid (∀ w', Below w.heap.size w w' → (Paths w' ∧ 2 < w'.heap.size) ∧ Tab3 0 wid w' ∧ 0 < w'.heap.size) := Lib.hid (fun w' h => ⟨⟨hp.below h hz, Nat.lt_of_lt_of_le hz h.size⟩, ht.below h hz2, Nat.lt_of_lt_of_le hz2 h.size⟩)
  clear hp ht
  go_enter Tryd.func11, Tryd.ntmps11
  go_wp2_with fail
  have CA : Hid (Cells (w.alloc (.cells #[.int .i64 s.sq, .int .i64 s.fe, .slice A s.ents.length c, .slice A2 s.tmbs.length c2, .int .i64 s.lo.a, .int .i64 s.lo.b, .int .i64 s.lo.c, .int .i64 s.hi.a, .int .i64 s.hi.b, .int .i64 s.hi.c] 33)) w.heap.size 0 [.int .i64 s.sq, .int .i64 s.fe, .slice A s.ents.length c, .slice A2 s.tmbs.length c2, .int .i64 s.lo.a, .int .i64 s.lo.b, .int .i64 s.lo.c, .int .i64 s.hi.a, .int .i64 s.hi.b, .int .i64 s.hi.c]) := Lib.hid (Cells.new w _ _)
  have b0 : Below w.heap.size w (w.alloc (.cells #[.int .i64 s.sq, .int .i64 s.fe, .slice A s.ents.length c, .slice A2 s.tmbs.length c2, .int .i64 s.lo.a, .int .i64 s.lo.b, .int .i64 s.lo.c, .int .i64 s.hi.a, .int .i64 s.hi.b, .int .i64 s.hi.c] 33)) := bal (Below.refl _ _) _
  have s0 : w.heap.size < (w.alloc (.cells #[.int .i64 s.sq, .int .i64 s.fe, .slice A s.ents.length c, .slice A2 s.tmbs.length c2, .int .i64 s.lo.a, .int .i64 s.lo.b, .int .i64 s.lo.c, .int .i64 s.hi.a, .int .i64 s.hi.b, .int .i64 s.hi.c] 33)).heap.size := by simp
  generalize w.alloc (.cells #[.int .i64 s.sq, .int .i64 s.fe, .slice A s.ents.length c, .slice A2 s.tmbs.length c2, .int .i64 s.lo.a, .int .i64 s.lo.b, .int .i64 s.lo.c, .int .i64 s.hi.a, .int .i64 s.hi.b, .int .i64 s.hi.c] 33) = W at *
  generalize hx0 : w.heap.size = x0 at *
  have Hx0 := Lib.hid hx0; clear hx0
  refine (stRight_any A c A2 c2 s x0 W ((H.out.below b0 (by have := Hx0.out; omega)).more (by have := Hx0.out; omega)) (by omega) Hf.out Hf2.out hl hl2 (HP.out _ b0).1.1 (HP.out _ b0).1.2).mono ?_
  rintro e w1 ⟨bs, hbs, rfl, hb1⟩
  have b1 : Below x0 w w1 := b0.trans (hb1.mono (by omega))
  have C1 := Lib.hid (CA.out.below hb1 s0)
  have s1 : x0 < w1.heap.size := by have := hb1.size; omega
  clear CA hb1 b0 s0
  cases bs
  · have HN := Lib.hid (show ¬ StP s from fun h => by have := hbs.2 h; cases this)
    clear hbs
    go_wp2
    refine bodyPost_ret (v := .tuple #[.int .i64 0, .int .i64 0, .bool false, .int .i64 1]) (by simp [results, Tryd.results11, go_sem]) rfl ⟨Or.inr ⟨HN.out, rfl⟩, by rw [Hx0.out]; exact b1⟩
  have HS := Lib.hid (hbs.1 rfl); clear hbs
  have HI := Lib.hid HS.out.high
  obtain ⟨c0, c1, c2', c3, c4, c5, c6, c7, c8, c9⟩ := C1.out.ten
  clear c0 c1 c2' c3 c4 c5 c6
  go_wp2_with fail
  have g0 : (w1.alloc (.cells #[.int .i64 1, .int .i64 2] 3)).cell? ⟨w1.heap.size, 0, none⟩ = some (.int .i64 1) := by simp [go_sem]
  have g1 : (w1.alloc (.cells #[.int .i64 1, .int .i64 2] 3)).cell? ⟨w1.heap.size, 1, none⟩ = some (.int .i64 2) := by simp [go_sem]
  have bA : Below w1.heap.size w1 (w1.alloc (.cells #[.int .i64 1, .int .i64 2] 3)) := bal (Below.refl _ _) _
  have sA : w1.heap.size < (w1.alloc (.cells #[.int .i64 1, .int .i64 2] 3)).heap.size := by simp
  generalize w1.alloc (.cells #[.int .i64 1, .int .i64 2] 3) = WA at *
  have b2 : Below x0 w WA := b1.trans (bA.mono (by omega))
  have C2 := Lib.hid (C1.out.below bA s1)
  have s2 : x0 < WA.heap.size := by omega
  clear C1 c7 c8 c9
  refine (firstDue x0 w1.heap.size A A2 c c2 s WA C2.out s2 HI.out (HP.out _ b2).2.1 (HP.out _ b2).2.2 sA g0 g1).mono ?_
  rintro e w3 ⟨rfl, hb3⟩
  have b3 : Below x0 w w3 := b2.trans (hb3.mono (by omega))
  obtain ⟨c0, c1, c2', c3, c4, c5, c6, c7, c8, c9⟩ := (C2.out.below hb3 s2).ten
  clear c0 c1 c2' c3 c4 c5 c6 C2 hb3 b2 bA b1 g0 g1 sA
  have FIN : Hid (∀ e w', Below x0 w w' → e = .returned (.tuple #[.int .i64 (dueV s).1, .int .i64 (dueV s).2.1, .bool (dueV s).2.2, .int .i64 0]) → DueR s w e w') := Lib.hid fun e w' hb he => ⟨Or.inl ⟨HS.out, he⟩, by rw [Hx0.out]; exact hb⟩
  by_cases d1 : s.hi.b + 5 ≤ s.hi.a
  · have hv : dueV s = (1, s.hi.b, true) := by simp [dueV, d1]
    rw [hv] at FIN ⊢
    clear hv d1
    dsimp only at FIN ⊢
    go_wp2_with fail
    go_quiet (fail)
    go_wp2
    refine bodyPost_ret (v := .tuple #[.int .i64 1, .int .i64 s.hi.b, .bool true, .int .i64 0]) (by simp [results, Tryd.results11, go_sem]) rfl (FIN.out _ _ (by first | exact b3 | exact bdrewB b3 _) rfl)
  by_cases d2 : s.hi.c + 20 ≤ s.hi.b
  · have hv : dueV s = (2, s.hi.c, true) := by simp [dueV, d1, d2]
    rw [hv] at FIN ⊢
    clear hv d1 d2
    dsimp only at FIN ⊢
    go_wp2_with fail
    go_quiet (fail)
    go_wp2
    refine bodyPost_ret (v := .tuple #[.int .i64 2, .int .i64 s.hi.c, .bool true, .int .i64 0]) (by simp [results, Tryd.results11, go_sem]) rfl (FIN.out _ _ (by first | exact b3 | exact bdrewB b3 _) rfl)
  · have hv : dueV s = (0, 0, false) := by simp [dueV, d1, d2]
    rw [hv] at FIN ⊢
    clear hv d1 d2
    dsimp only at FIN ⊢
    go_wp2
    refine bodyPost_ret (v := .tuple #[.int .i64 0, .int .i64 0, .bool false, .int .i64 0]) (by simp [results, Tryd.results11, go_sem]) rfl (FIN.out _ _ (by first | exact b3 | exact bdrewB b3 _) rfl)

end Go.Proofs.YthmpmagajbmpaaaDoor
