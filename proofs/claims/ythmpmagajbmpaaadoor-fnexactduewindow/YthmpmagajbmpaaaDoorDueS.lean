/-
  Contract of the model's DueWindow. Conditions: lengths.
-/
import Derived.Test.YthmpmagajbmpaaaDoorStpS
import Derived.Test.YthmpmagajbmpaaaDoorDue
import Derived.Test.YthmpmagajbmpaaaDoorTierA
namespace Go.Proofs.YthmpmagajbmpaaaDoor
open Go.ChangeShapes Go.WideShapes Go.ChangeAt Go.RowKit Go.Deep Go.Joins Go.Maps
set_option linter.unusedVariables false
set_option linter.unusedSimpArgs false


set_option maxRecDepth 100000 in
set_option maxHeartbeats 1000000 in
theorem l07Due_any (A : Option Addr) (c : Nat) (A2 : Option Addr) (c2 : Nat) (s : GSt) (w : World) (hi : TriIn s.hi 0 100000) :
    Calls Tryd.prog 34 #[.agg #[.int .i64 s.sq, .int .i64 s.fe, .slice A s.ents.length c, .slice A2 s.tmbs.length c2, .int .i64 s.lo.a, .int .i64 s.lo.b, .int .i64 s.lo.c, .int .i64 s.hi.a, .int .i64 s.hi.b, .int .i64 s.hi.c]] w fun e w' => e = .returned (.tuple #[.int .i64 (dueV s).1, .int .i64 (dueV s).2.1, .bool (dueV s).2.2]) ∧ Below w.heap.size w w' := by
  have V1 : Hid (s.hi.b + 5 ≤ s.hi.a → dueV s = (1, s.hi.b, true)) := Lib.hid fun h => by simp [dueV, h]
  have V2 : Hid (¬ s.hi.b + 5 ≤ s.hi.a → s.hi.c + 20 ≤ s.hi.b → dueV s = (2, s.hi.c, true)) := Lib.hid fun h1 h => by simp [dueV, h, h1]
  have V3 : Hid (¬ s.hi.b + 5 ≤ s.hi.a → ¬ s.hi.c + 20 ≤ s.hi.b → dueV s = (0, 0, false)) := Lib.hid fun h1 h => by simp [dueV, h, h1]
  have w1e : wrap64 (s.hi.b + 5) = s.hi.b + 5 := by have := hi.2.1; unfold wrap64; omega
  have w2e : wrap64 (s.hi.c + 20) = s.hi.c + 20 := by have := hi.2.2; unfold wrap64; omega
  have L1 : Hid (∀ W, Calls Tryd.prog 67 #[.int .i64 1] W fun e w' => e = .returned (.int .i64 5) ∧ Below W.heap.size W w') := Lib.hid fun W => l04Width_in 1 (by omega) W
  have L2 : Hid (∀ W, Calls Tryd.prog 67 #[.int .i64 2] W fun e w' => e = .returned (.int .i64 20) ∧ Below W.heap.size W w') := Lib.hid fun W => l04Width_in 2 (by omega) W
  clear hi
  go_enter Tryd.func34, Tryd.ntmps34
  go_wp2_with fail
  have CA : Hid (Cells (w.alloc (.cells #[.int .i64 s.sq, .int .i64 s.fe, .slice A s.ents.length c, .slice A2 s.tmbs.length c2, .int .i64 s.lo.a, .int .i64 s.lo.b, .int .i64 s.lo.c, .int .i64 s.hi.a, .int .i64 s.hi.b, .int .i64 s.hi.c] 33)) w.heap.size 0 [.int .i64 s.sq, .int .i64 s.fe, .slice A s.ents.length c, .slice A2 s.tmbs.length c2, .int .i64 s.lo.a, .int .i64 s.lo.b, .int .i64 s.lo.c, .int .i64 s.hi.a, .int .i64 s.hi.b, .int .i64 s.hi.c]) := Lib.hid (Cells.new w _ _)
  have b0 : Below w.heap.size w (w.alloc (.cells #[.int .i64 s.sq, .int .i64 s.fe, .slice A s.ents.length c, .slice A2 s.tmbs.length c2, .int .i64 s.lo.a, .int .i64 s.lo.b, .int .i64 s.lo.c, .int .i64 s.hi.a, .int .i64 s.hi.b, .int .i64 s.hi.c] 33)) := bal (Below.refl _ _) _
  have s0 : w.heap.size < (w.alloc (.cells #[.int .i64 s.sq, .int .i64 s.fe, .slice A s.ents.length c, .slice A2 s.tmbs.length c2, .int .i64 s.lo.a, .int .i64 s.lo.b, .int .i64 s.lo.c, .int .i64 s.hi.a, .int .i64 s.hi.b, .int .i64 s.hi.c] 33)).heap.size := by simp
  generalize w.alloc (.cells #[.int .i64 s.sq, .int .i64 s.fe, .slice A s.ents.length c, .slice A2 s.tmbs.length c2, .int .i64 s.lo.a, .int .i64 s.lo.b, .int .i64 s.lo.c, .int .i64 s.hi.a, .int .i64 s.hi.b, .int .i64 s.hi.c] 33) = W at *
  generalize hx0 : w.heap.size = x0 at *
  have Hx0 := Lib.hid hx0; clear hx0
  go_loopw [5] (fun i wr => ∃ k : Nat, k ≤ 3 ∧ 1 ≤ k ∧ i = .int .i64 k ∧ Hid (2 ≤ k → ¬ s.hi.b + 5 ≤ s.hi.a) ∧ Hid (3 ≤ k → ¬ s.hi.c + 20 ≤ s.hi.b) ∧ Hid (Cells wr x0 0 [.int .i64 s.sq, .int .i64 s.fe, .slice A s.ents.length c, .slice A2 s.tmbs.length c2, .int .i64 s.lo.a, .int .i64 s.lo.b, .int .i64 s.lo.c, .int .i64 s.hi.a, .int .i64 s.hi.b, .int .i64 s.hi.c]) ∧ Hid (x0 < wr.heap.size) ∧ Below x0 w wr) (fun i _ => 3 - (intOf i).toNat)
  case atStart => exact ⟨1, by omega, by omega, rfl, Lib.hid (by omega), Lib.hid (by omega), CA, Lib.hid s0, b0⟩
  case round =>
    clear CA s0 b0
    obtain ⟨k, hk, hk0, rfl, hk1, hk2, CW, HX, hb⟩ := hrel
    obtain ⟨c0, c1, c2', c3, c4, c5, c6, c7, c8, c9⟩ := CW.out.ten
    clear c0 c1 c2' c3 c4 c5 c6
    rcases (show k = 1 ∨ k = 2 ∨ k = 3 by omega) with rfl | rfl | rfl
    · clear hk1 hk2
      go_wp2_with fail
      go_region_held3 (fun w' => w'.cell? ⟨x0, 7, none⟩ = some (.int .i64 s.hi.a) ∧ w'.cell? ⟨x0, 8, none⟩ = some (.int .i64 s.hi.b) ∧ w'.cell? ⟨x0, 9, none⟩ = some (.int .i64 s.hi.c))
        (first | exact ⟨c7, c8, c9⟩ | exact (CW.out.below hb1 HX.out).ten.2.2.2.2.2.2.2 | (go_keep; done))
        (first | (go_at_call 67; refine (L1.out wr.drew).mono ?_; rintro e w1 ⟨rfl, hb1'⟩; have hb1 : Below wr.heap.size wr w1 := (Below.refl _ _).drew.trans hb1'; clear hb1'; have b1 : Below x0 w w1 := hb.trans (hb1.mono (Nat.le_of_lt HX.out))))
      have C1 := Lib.hid (CW.out.below hb1 HX.out)
      have s1 : x0 < w1.heap.size := by have := hb1.size; have := HX.out; omega
      obtain ⟨d0, d1, d2, d3, d4, d5, d6, d7, d8, d9⟩ := C1.out.ten
      clear d0 d1 d2 d3 d4 d5 d6 c7 c8 c9 hb1 CW HX hb
      rw [show IntKind.i64.wrap (s.hi.b + 5) = s.hi.b + 5 from by rw [IntKind.wrap_i64]; first | exact w1e | (unfold wrap64 at w1e; omega)]
      by_cases h1 : s.hi.b + 5 ≤ s.hi.a
      · have E := V1.out h1
        have dd : decide (s.hi.b + 5 ≤ s.hi.a) = true := by simpa using h1
        clear h1
        go_wp2_with fail
        go_quiet (fail)
        go_wp2
        refine bodyPost_ret (v := .tuple #[.int .i64 (dueV s).1, .int .i64 (dueV s).2.1, .bool (dueV s).2.2]) (by rw [E]; simp [results, Tryd.results34, go_sem]) rfl ⟨rfl, by rw [Hx0.out]; exact bdrewB b1 _⟩
      · have dd : decide (s.hi.b + 5 ≤ s.hi.a) = false := by simpa using h1
        have N2 := Lib.hid h1; clear h1
        go_wp2_with fail
        go_roundw
        case rel => exact ⟨2, by omega, by omega, rfl, Lib.hid (fun _ => by have := N2.out; omega), Lib.hid (by omega), C1, Lib.hid s1, b1⟩
        case measure => simp [intOf]
    · have n1 := hk1.out (by omega)
      have N1 := Lib.hid n1; clear n1
      clear hk1 hk2
      go_wp2_with fail
      go_region_held3 (fun w' => w'.cell? ⟨x0, 7, none⟩ = some (.int .i64 s.hi.a) ∧ w'.cell? ⟨x0, 8, none⟩ = some (.int .i64 s.hi.b) ∧ w'.cell? ⟨x0, 9, none⟩ = some (.int .i64 s.hi.c))
        (first | exact ⟨c7, c8, c9⟩ | exact (CW.out.below hb1 HX.out).ten.2.2.2.2.2.2.2 | (go_keep; done))
        (first | (go_at_call 67; refine (L2.out wr.drew).mono ?_; rintro e w1 ⟨rfl, hb1'⟩; have hb1 : Below wr.heap.size wr w1 := (Below.refl _ _).drew.trans hb1'; clear hb1'; have b1 : Below x0 w w1 := hb.trans (hb1.mono (Nat.le_of_lt HX.out))))
      have C1 := Lib.hid (CW.out.below hb1 HX.out)
      have s1 : x0 < w1.heap.size := by have := hb1.size; have := HX.out; omega
      obtain ⟨d0, d1, d2, d3, d4, d5, d6, d7, d8, d9⟩ := C1.out.ten
      clear d0 d1 d2 d3 d4 d5 d6 c7 c8 c9 hb1 CW HX hb
      rw [show IntKind.i64.wrap (s.hi.c + 20) = s.hi.c + 20 from by rw [IntKind.wrap_i64]; first | exact w2e | (unfold wrap64 at w2e; omega)]
      by_cases h1 : s.hi.c + 20 ≤ s.hi.b
      · have E := V2.out (by have := N1.out; omega) h1
        have dd : decide (s.hi.c + 20 ≤ s.hi.b) = true := by simpa using h1
        clear h1
        go_wp2_with fail
        go_quiet (fail)
        go_wp2
        refine bodyPost_ret (v := .tuple #[.int .i64 (dueV s).1, .int .i64 (dueV s).2.1, .bool (dueV s).2.2]) (by rw [E]; simp [results, Tryd.results34, go_sem]) rfl ⟨rfl, by rw [Hx0.out]; exact bdrewB b1 _⟩
      · have dd : decide (s.hi.c + 20 ≤ s.hi.b) = false := by simpa using h1
        have N2 := Lib.hid h1; clear h1
        go_wp2_with fail
        go_roundw
        case rel => exact ⟨3, by omega, by omega, rfl, Lib.hid (fun _ => by have := N1.out; omega), Lib.hid (fun _ => by have := N2.out; omega), C1, Lib.hid s1, b1⟩
        case measure => simp [intOf]
    · have E := V3.out (by have := hk1.out (by omega); omega) (by have := hk2.out (by omega); omega)
      clear hk1 hk2
      go_wp2
      refine bodyPost_ret (v := .tuple #[.int .i64 (dueV s).1, .int .i64 (dueV s).2.1, .bool (dueV s).2.2]) (by rw [E]; simp [results, Tryd.results34, go_sem]) rfl ⟨rfl, by rw [Hx0.out]; exact hb⟩

set_option maxRecDepth 100000 in
set_option maxHeartbeats 1000000 in
theorem specDueWindow_any (A : Option Addr) (c : Nat) (A2 : Option Addr) (c2 : Nat) (s : GSt) (B : Nat) (w : World) (h : StAt w B A A2 s) (hB : B ≤ w.heap.size) (hf : ∀ o ∈ s.ents, o.small) (hf2 : ∀ o ∈ s.tmbs, o.small) (hl : s.ents.length ≤ 1048576) (hl2 : s.tmbs.length ≤ 1048576) :
    Calls Tryd.prog 9 #[.agg #[.int .i64 s.sq, .int .i64 s.fe, .slice A s.ents.length c, .slice A2 s.tmbs.length c2, .int .i64 s.lo.a, .int .i64 s.lo.b, .int .i64 s.lo.c, .int .i64 s.hi.a, .int .i64 s.hi.b, .int .i64 s.hi.c]] w (DueR s w) := by
  have H := Lib.hid h; clear h
  have Hf := Lib.hid hf; clear hf
  have Hf2 := Lib.hid hf2; clear hf2
  go_enter Tryd.func9, Tryd.ntmps9
  go_wp2_with fail
  have CA : Hid (Cells (w.alloc (.cells #[.int .i64 s.sq, .int .i64 s.fe, .slice A s.ents.length c, .slice A2 s.tmbs.length c2, .int .i64 s.lo.a, .int .i64 s.lo.b, .int .i64 s.lo.c, .int .i64 s.hi.a, .int .i64 s.hi.b, .int .i64 s.hi.c] 33)) w.heap.size 0 [.int .i64 s.sq, .int .i64 s.fe, .slice A s.ents.length c, .slice A2 s.tmbs.length c2, .int .i64 s.lo.a, .int .i64 s.lo.b, .int .i64 s.lo.c, .int .i64 s.hi.a, .int .i64 s.hi.b, .int .i64 s.hi.c]) := Lib.hid (Cells.new w _ _)
  have b0 : Below w.heap.size w (w.alloc (.cells #[.int .i64 s.sq, .int .i64 s.fe, .slice A s.ents.length c, .slice A2 s.tmbs.length c2, .int .i64 s.lo.a, .int .i64 s.lo.b, .int .i64 s.lo.c, .int .i64 s.hi.a, .int .i64 s.hi.b, .int .i64 s.hi.c] 33)) := bal (Below.refl _ _) _
  have s0 : w.heap.size < (w.alloc (.cells #[.int .i64 s.sq, .int .i64 s.fe, .slice A s.ents.length c, .slice A2 s.tmbs.length c2, .int .i64 s.lo.a, .int .i64 s.lo.b, .int .i64 s.lo.c, .int .i64 s.hi.a, .int .i64 s.hi.b, .int .i64 s.hi.c] 33)).heap.size := by simp
  generalize w.alloc (.cells #[.int .i64 s.sq, .int .i64 s.fe, .slice A s.ents.length c, .slice A2 s.tmbs.length c2, .int .i64 s.lo.a, .int .i64 s.lo.b, .int .i64 s.lo.c, .int .i64 s.hi.a, .int .i64 s.hi.b, .int .i64 s.hi.c] 33) = W at *
  generalize hx0 : w.heap.size = x0 at *
  have Hx0 := Lib.hid hx0; clear hx0
  refine (specStateOK_any A c A2 c2 s x0 W ((H.out.below b0 (by have := Hx0.out; omega)).more (by have := Hx0.out; omega)) (by omega) Hf.out Hf2.out hl hl2).mono ?_
  rintro e w1 ⟨bs, hbs, rfl, hb1⟩
  have b1 : Below x0 w w1 := b0.trans (hb1.mono (by omega))
  have C1 := Lib.hid (CA.out.below hb1 s0)
  have s1 : x0 < w1.heap.size := by have := hb1.size; omega
  clear CA hb1 b0 s0
  cases bs
  · have HN := Lib.hid (show ¬ StP s from fun h => by have := hbs.2 h; cases this)
    clear hbs
    go_wp2
    refine bodyPost_ret (v := .tuple #[.int .i64 0, .int .i64 0, .bool false, .int .i64 1]) (by simp [results, Tryd.results9, go_sem]) rfl ⟨Or.inr ⟨HN.out, rfl⟩, by rw [Hx0.out]; exact b1⟩
  have HS := Lib.hid (hbs.1 rfl); clear hbs
  obtain ⟨c0, c1, c2', c3, c4, c5, c6, c7, c8, c9⟩ := C1.out.ten
  go_wp2_with fail
  refine (l07Due_any A c A2 c2 s w1 HS.out.high).mono ?_
  rintro e w3 ⟨rfl, hb3⟩
  have b3 : Below x0 w w3 := b1.trans (hb3.mono (by omega))
  clear hb3 b1 c0 c1 c2' c3 c4 c5 c6 c7 c8 c9 C1
  go_wp2
  refine bodyPost_ret (v := .tuple #[.int .i64 (dueV s).1, .int .i64 (dueV s).2.1, .bool (dueV s).2.2, .int .i64 0]) (by simp [results, Tryd.results9, go_sem]) rfl ⟨Or.inl ⟨HS.out, rfl⟩, by rw [Hx0.out]; exact b3⟩

end Go.Proofs.YthmpmagajbmpaaaDoor
