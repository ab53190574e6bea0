/-
  Contract of the model's ExpiredEntry. Conditions: lengths.
-/
import Derived.Test.YthmpmagajbmpaaaDoorStpS
import Derived.Test.YthmpmagajbmpaaaDoorExpI
namespace Go.Proofs.YthmpmagajbmpaaaDoor
open Go.ChangeShapes Go.WideShapes Go.ChangeAt Go.RowKit Go.Deep Go.Joins Go.Maps
set_option linter.unusedVariables false
set_option linter.unusedSimpArgs false


theorem l05NowB_any (n : Int) (w : World) : Calls Tryd.prog 50 #[.int .i64 n] w fun e w' => e = .returned (.bool (inB n 0 101000)) ∧ w = w' := by
  go_enter Tryd.func50, Tryd.ntmps50
  go_wp2_with (go_at_call 63; refine (inL_any _ _ _ _).mono ?_; rintro e w' ⟨rfl, rfl⟩)
  go_ret
  exact ⟨rfl, rfl⟩

def FstP (es : List GEnt) (t n : Int) : Prop := (firstE es t = none ∧ n = -1) ∨ ∃ k : Nat, ∃ hk : k < es.length, n = k ∧ firstE es t = some es[k] ∧ NoT es t k

set_option maxRecDepth 100000 in
theorem l06First_any (A : Option Addr) (c : Nat) (A2 : Option Addr) (c2 : Nat) (s : GSt) (t : Int) (B : Nat) (w : World) (h : StAt w B A A2 s) (hB : B ≤ w.heap.size) (hl : s.ents.length ≤ 1048576) :
    Calls Tryd.prog 79 #[.agg #[.int .i64 s.sq, .int .i64 s.fe, .slice A s.ents.length c, .slice A2 s.tmbs.length c2, .int .i64 s.lo.a, .int .i64 s.lo.b, .int .i64 s.lo.c, .int .i64 s.hi.a, .int .i64 s.hi.b, .int .i64 s.hi.c], .int .i64 t] w fun r w' => ∃ n, FstP s.ents t n ∧ r = .returned (.int .i64 n) ∧ Below w.heap.size w w' := by
  have H := Lib.hid h; clear h
  go_enter Tryd.func79, Tryd.ntmps79
  go_wp2_with fail
  have CA : Hid (Cells (w.alloc (.cells #[.int .i64 s.sq, .int .i64 s.fe, .slice A s.ents.length c, .slice A2 s.tmbs.length c2, .int .i64 s.lo.a, .int .i64 s.lo.b, .int .i64 s.lo.c, .int .i64 s.hi.a, .int .i64 s.hi.b, .int .i64 s.hi.c] 33)) w.heap.size 0 [.int .i64 s.sq, .int .i64 s.fe, .slice A s.ents.length c, .slice A2 s.tmbs.length c2, .int .i64 s.lo.a, .int .i64 s.lo.b, .int .i64 s.lo.c, .int .i64 s.hi.a, .int .i64 s.hi.b, .int .i64 s.hi.c]) := Lib.hid (Cells.new w _ _)
  have b0 : Below w.heap.size w (w.alloc (.cells #[.int .i64 s.sq, .int .i64 s.fe, .slice A s.ents.length c, .slice A2 s.tmbs.length c2, .int .i64 s.lo.a, .int .i64 s.lo.b, .int .i64 s.lo.c, .int .i64 s.hi.a, .int .i64 s.hi.b, .int .i64 s.hi.c] 33)) := bal (Below.refl _ _) _
  have s0 : w.heap.size < (w.alloc (.cells #[.int .i64 s.sq, .int .i64 s.fe, .slice A s.ents.length c, .slice A2 s.tmbs.length c2, .int .i64 s.lo.a, .int .i64 s.lo.b, .int .i64 s.lo.c, .int .i64 s.hi.a, .int .i64 s.hi.b, .int .i64 s.hi.c] 33)).heap.size := by simp
  have HS := Lib.hid (H.out.below b0 hB)
  generalize w.alloc (.cells #[.int .i64 s.sq, .int .i64 s.fe, .slice A s.ents.length c, .slice A2 s.tmbs.length c2, .int .i64 s.lo.a, .int .i64 s.lo.b, .int .i64 s.lo.c, .int .i64 s.hi.a, .int .i64 s.hi.b, .int .i64 s.hi.c] 33) = W at *
  obtain ⟨c0, c1, c2', c3, c4, c5, c6, c7, c8, c9⟩ := CA.out.ten
  clear c0 c1 c3 c4 c5 c6 c7 c8 c9
  go_loopw [5] (fun i wr => ∃ k : Nat, k ≤ s.ents.length ∧ i = .int .i64 k ∧ Hid (NoT s.ents t k) ∧ wr = W) (fun i _ => s.ents.length - (intOf i).toNat)
  case atStart => exact ⟨0, by omega, rfl, Lib.hid (NoT.zero _ _), rfl⟩
  case round =>
    obtain ⟨k, hk, rfl, HN, rfl⟩ := hrel
    by_cases hlt : k < s.ents.length
    · obtain ⟨b1, o1, rfl, hb1, p0, p1, p2, p3⟩ := EntsAt.one HS.out.1 hlt
      have i1 : (0 : Int) ≤ (k : Int) := by omega
      have i2 : (k : Int) < (s.ents.length : Int) := by omega
      have HV1 := Lib.hid (fun (h1 : (s.ents[k].tier == t) = true) => (Or.inr ⟨k, hlt, rfl, firstE_at HN.out hlt h1, HN.out⟩ : FstP s.ents t k))
      have HN1 := Lib.hid (fun (h1 : (s.ents[k].tier == t) = false) => HN.out.succ (fun _ => h1))
      generalize s.ents[k] = e at *
      clear HN
      cases ht : (e.tier == t)
      · have N1 := HN1.out ht
        have HN2 := Lib.hid N1; clear N1 HN1 HV1
        go_wp2_with fail
        go_roundw
        case rel => exact ⟨k + 1, by omega, by simp, HN2, by first | rfl | trivial⟩
        case measure => simp [intOf]; omega
      · have HV2 := Lib.hid (HV1.out ht)
        clear HV1 HN1
        go_wp2
        go_ret
        exact ⟨_, HV2.out, rfl, b0⟩
    · have hv := firstE_no HN.out (by omega)
      have HV := Lib.hid hv; clear hv
      go_wp2
      go_ret
      exact ⟨-1, Or.inl ⟨HV.out, rfl⟩, rfl, b0⟩

def ExpM (s : GSt) (now : Int) (w : World) (r : Ending) (w' : World) : Prop := ∃ x : GEnt, x = (expV s now).getD zEnt ∧ r = .returned (.tuple #[.agg #[.int .i64 x.tier, .int .i64 x.beg, .int .i64 x.fin, .string x.key], .bool (expV s now).isSome]) ∧ Below w.heap.size w w'

set_option maxRecDepth 100000 in
set_option maxHeartbeats 4000000 in
theorem l07Expired_any (A : Option Addr) (c : Nat) (A2 : Option Addr) (c2 : Nat) (s : GSt) (now : Int) (B : Nat) (w : World) (h : StAt w B A A2 s) (hB : B ≤ w.heap.size) (hl : s.ents.length ≤ 1048576) (hsp : StP s) :
    Calls Tryd.prog 51 #[.agg #[.int .i64 s.sq, .int .i64 s.fe, .slice A s.ents.length c, .slice A2 s.tmbs.length c2, .int .i64 s.lo.a, .int .i64 s.lo.b, .int .i64 s.lo.c, .int .i64 s.hi.a, .int .i64 s.hi.b, .int .i64 s.hi.c], .int .i64 now] w (ExpM s now w) := by
  have H := Lib.hid h; clear h
  have HSP := Lib.hid hsp; clear hsp
  have L0 : Hid (∀ W, Calls Tryd.prog 80 #[.int .i64 0] W fun e w' => e = .returned (.int .i64 40) ∧ Below W.heap.size W w') := Lib.hid fun W => l04Keep_in 0 (by omega) W
  have L1 : Hid (∀ W, Calls Tryd.prog 80 #[.int .i64 1] W fun e w' => e = .returned (.int .i64 100) ∧ Below W.heap.size W w') := Lib.hid fun W => l04Keep_in 1 (by omega) W
  have L2 : Hid (∀ W, Calls Tryd.prog 80 #[.int .i64 2] W fun e w' => e = .returned (.int .i64 400) ∧ Below W.heap.size W w') := Lib.hid fun W => l04Keep_in 2 (by omega) W
  go_enter Tryd.func51, Tryd.ntmps51
  go_wp2_with fail
  have K0 : Hid (ExpKept w w.heap.size A c A2 c2 s ((w.alloc (.cells #[.int .i64 s.sq, .int .i64 s.fe, .slice A s.ents.length c, .slice A2 s.tmbs.length c2, .int .i64 s.lo.a, .int .i64 s.lo.b, .int .i64 s.lo.c, .int .i64 s.hi.a, .int .i64 s.hi.b, .int .i64 s.hi.c] 33)).alloc (.cells #[.int .i64 0, .int .i64 0, .int .i64 0, .string ⟨#[]⟩] 44))) := Lib.hid (by
    have k1 := (Cells.new w [.int .i64 s.sq, .int .i64 s.fe, .slice A s.ents.length c, .slice A2 s.tmbs.length c2, .int .i64 s.lo.a, .int .i64 s.lo.b, .int .i64 s.lo.c, .int .i64 s.hi.a, .int .i64 s.hi.b, .int .i64 s.hi.c] 33).below (bal (Below.refl _ _) (.cells #[.int .i64 0, .int .i64 0, .int .i64 0, .string ⟨#[]⟩] 44)) (by simp)
    have k2 := Cells.new (w.alloc (.cells #[.int .i64 s.sq, .int .i64 s.fe, .slice A s.ents.length c, .slice A2 s.tmbs.length c2, .int .i64 s.lo.a, .int .i64 s.lo.b, .int .i64 s.lo.c, .int .i64 s.hi.a, .int .i64 s.hi.b, .int .i64 s.hi.c] 33)) [.int .i64 0, .int .i64 0, .int .i64 0, .string ⟨#[]⟩] 44
    have k3 := free_alloc (w.alloc (.cells #[.int .i64 s.sq, .int .i64 s.fe, .slice A s.ents.length c, .slice A2 s.tmbs.length c2, .int .i64 s.lo.a, .int .i64 s.lo.b, .int .i64 s.lo.c, .int .i64 s.hi.a, .int .i64 s.hi.b, .int .i64 s.hi.c] 33)) #[.int .i64 0, .int .i64 0, .int .i64 0, .string ⟨#[]⟩] 44 0
    exact ⟨by simpa using k1, by simpa using k2, by simpa using k3, by simp, bal (bal (Below.refl _ _) _) _⟩)
  generalize ((w.alloc (.cells #[.int .i64 s.sq, .int .i64 s.fe, .slice A s.ents.length c, .slice A2 s.tmbs.length c2, .int .i64 s.lo.a, .int .i64 s.lo.b, .int .i64 s.lo.c, .int .i64 s.hi.a, .int .i64 s.hi.b, .int .i64 s.hi.c] 33)).alloc (.cells #[.int .i64 0, .int .i64 0, .int .i64 0, .string ⟨#[]⟩] 44)) = W at *
  generalize hx0 : w.heap.size = x0 at *
  have Hx0 := Lib.hid hx0; clear hx0
  have HS : Hid (∀ w', Below x0 w w' → StAt w' x0 A A2 s) := Lib.hid fun w' hb => (H.out.below hb (by have := Hx0.out; omega)).more (by have := Hx0.out; omega)
  clear H
  have FIN : Hid (∀ e wf, expV s now = some e → Below x0 w wf → ExpM s now w (.returned (.tuple #[.agg #[.int .i64 e.tier, .int .i64 e.beg, .int .i64 e.fin, .string e.key], .bool true])) wf) := Lib.hid fun e wf he hb => ⟨e, by rw [he]; rfl, by rw [he]; rfl, by rw [Hx0.out]; exact hb⟩
  have FINZ : Hid (∀ wf, expV s now = none → Below x0 w wf → ExpM s now w (.returned (.tuple #[.agg #[.int .i64 0, .int .i64 0, .int .i64 0, .string ⟨#[]⟩], .bool false])) wf) := Lib.hid fun wf he hb => ⟨zEnt, by rw [he]; rfl, by rw [he]; rfl, by rw [Hx0.out]; exact hb⟩
  have HFI : Hid (∀ t e, firstE s.ents t = some e → e.tier = t ∧ 0 ≤ e.fin ∧ e.fin ≤ 100000) := Lib.hid fun t e he => by
    have hm := firstE_mem he
    obtain ⟨j, hj, rfl⟩ := List.getElem_of_mem hm.1
    have := (HSP.out.ent hj).rng
    exact ⟨hm.2, by omega, by omega⟩
  clear HSP
  go_loopw [6] (fun i wr => ∃ k : Nat, k ≤ 3 ∧ i = .int .i64 k ∧ Hid (∀ j, j < k → expAt s now j = none) ∧ Hid (ExpKept w x0 A c A2 c2 s wr)) (fun i _ => 3 - (intOf i).toNat)
  case atStart => exact ⟨0, by omega, rfl, Lib.hid (fun j hj => by omega), K0⟩
  case round =>
    clear K0
    obtain ⟨k, hk, rfl, HN, K⟩ := hrel
    rcases (show k = 0 ∨ k = 1 ∨ k = 2 ∨ k = 3 by omega) with rfl | rfl | rfl | rfl
    · obtain ⟨c0, c1, c2', c3, c4, c5, c6, c7, c8, c9⟩ := K.out.1.ten
      go_wp2_with fail
      refine (l06First_any A c A2 c2 s 0 x0 wr (HS.out _ K.out.2.2.2.2) (by have := K.out.2.2.2.1; omega) hl).mono ?_
      rintro r w2 ⟨n, hn, rfl, hb2⟩
      have K2 := Lib.hid (K.out.step hb2)
      clear K hb2 c0 c1 c2' c3 c4 c5 c6 c7 c8 c9
      rcases hn with ⟨hE, rfl⟩ | ⟨m, hm, rfl, hE, hNT⟩
      · have HA : Hid (∀ j, j < 1 → expAt s now j = none) := Lib.hid fun j hj => by
          by_cases e : j = 0
          · subst e; unfold expAt; simp [hE]
          · exact HN.out j (by omega)
        clear hE HN
        go_wp2_with fail
        go_roundw
        case rel => exact ⟨1, by omega, rfl, HA, K2⟩
        case measure => simp [intOf]
      · have hfi := HFI.out _ _ hE
        obtain ⟨b1, o1, rfl, hb1, p0, p1, p2, p3⟩ := EntsAt.one (HS.out _ K2.out.2.2.2.2).1 hm
        have i1 : (0 : Int) ≤ (m : Int) := by omega
        have i2 : (m : Int) < (s.ents.length : Int) := by omega
        have nn : decide ((m : Int) < 0) = false := by simp
        have HNT := Lib.hid hNT; clear hNT
        generalize s.ents[m] = e at *
        obtain ⟨et, eb, ef, ek⟩ := e
        obtain ⟨het, hf0, hf1⟩ : et = 0 ∧ 0 ≤ ef ∧ ef ≤ 100000 := hfi
        subst het
        have HA : Hid (ageB s now 0 ⟨0, eb, ef, ek⟩ = false → ∀ j, j < 1 → expAt s now j = none) := Lib.hid fun ha j hj => by
          by_cases e : j = 0
          · subst e; unfold expAt; simp [hE, ha]
          · exact HN.out j (by omega)
        have HV : Hid (ageB s now 0 ⟨0, eb, ef, ek⟩ = true → expV s now = some ⟨0, eb, ef, ek⟩) := Lib.hid fun ha => expV_at (k := 0) (by omega) HN.out (by unfold expAt; simp [hE, ha])
        have hw : IntKind.i64.wrap (ef + 40) = ef + 40 := by rw [IntKind.wrap_i64]; omega
        have HW := Lib.hid hw; clear hw
        have HE := Lib.hid hE; clear hE HN hf0 hf1
        obtain ⟨c0, c1, c2', c3, c4, c5, c6, c7, c8, c9⟩ := K2.out.1.ten
        clear c0 c1 c3 c4 c5 c6 c7 c8 c9
        go_wp2_with fail
        have K3 : Hid (ExpKept w x0 (some ⟨b1, o1, none⟩) c A2 c2 s (w2.alloc (.cells #[.int .i64 0, .int .i64 eb, .int .i64 ef, .string ek] 44))) := Lib.hid (K2.out.step (bal (Below.refl _ _) _))
        have sz : w2.heap.size < (w2.alloc (.cells #[.int .i64 0, .int .i64 eb, .int .i64 ef, .string ek] 44)).heap.size := by simp
        have q := Cells.new w2 [.int .i64 0, .int .i64 eb, .int .i64 ef, .string ek] 44
        clear K2 p0 p1 p2 p3 c2'
        generalize w2.alloc (.cells #[.int .i64 0, .int .i64 eb, .int .i64 ef, .string ek] 44) = W3 at *
        generalize w2.heap.size = z at *
        have Q := Lib.hid q; clear q
        have CS := K3.out.1.ten
        have QS : W3.cell? ⟨z, 0, none⟩ = some (.int .i64 0) ∧ W3.cell? ⟨z, 1, none⟩ = some (.int .i64 eb) ∧ W3.cell? ⟨z, 2, none⟩ = some (.int .i64 ef) ∧ W3.cell? ⟨z, 3, none⟩ = some (.string ek) := ⟨Q.out 0 _ rfl, Q.out 1 _ rfl, Q.out 2 _ rfl, Q.out 3 _ rfl⟩
        by_cases hage : ef + 40 ≤ now
        rotate_left
        · have dd : decide (ef + 40 ≤ now) = false := by simpa using hage
          have HWd := Lib.hid (show decide (IntKind.i64.wrap (ef + 40) ≤ now) = false from by rw [HW.out]; exact dd)
          have HA2 := Lib.hid (HA.out (by unfold ageB; show (decide (ef + 40 ≤ now) && _) = false; rw [dd]; rfl))
          clear hage HA HV dd
          refine wp_region_noPanic ?_
          refine wp_region_held_drew (S := (fun w' => (w'.cell? ⟨x0, 0, none⟩ = some (.int .i64 s.sq) ∧ w'.cell? ⟨x0, 1, none⟩ = some (.int .i64 s.fe) ∧ w'.cell? ⟨x0, 2, none⟩ = some (.slice (some ⟨b1, o1, none⟩) s.ents.length c) ∧ w'.cell? ⟨x0, 3, none⟩ = some (.slice A2 s.tmbs.length c2) ∧ w'.cell? ⟨x0, 4, none⟩ = some (.int .i64 s.lo.a) ∧ w'.cell? ⟨x0, 5, none⟩ = some (.int .i64 s.lo.b) ∧ w'.cell? ⟨x0, 6, none⟩ = some (.int .i64 s.lo.c) ∧ w'.cell? ⟨x0, 7, none⟩ = some (.int .i64 s.hi.a) ∧ w'.cell? ⟨x0, 8, none⟩ = some (.int .i64 s.hi.b) ∧ w'.cell? ⟨x0, 9, none⟩ = some (.int .i64 s.hi.c)) ∧ w'.cell? ⟨z, 0, none⟩ = some (.int .i64 0) ∧ w'.cell? ⟨z, 1, none⟩ = some (.int .i64 eb) ∧ w'.cell? ⟨z, 2, none⟩ = some (.int .i64 ef) ∧ w'.cell? ⟨z, 3, none⟩ = some (.string ek))) (by kernel_rfl) (⟨CS, QS⟩) (fun hHeld => ?_)
          refine wpAnyH_take (i := 0) (oi := { dst := some 23, op := Op.fieldAddr 44 (Operand.tmp 8) 2, type := 0, pos := "l07_plan.go:64", after := #[], guard := none }) (v := ?ve0) rfl (by kernel_rfl) (by kernel_rfl) (by kernel_rfl) (fun _ _ _ h => h) (Or.inl ⟨by rfl, ?hye0⟩) (by assumption) ?reste0
          case hye0 => intro w hSw; (try dsimp only at hSw); (obtain ⟨⟨q0, q1, q2, q3, q4, q5, q6, q7, q8, q9⟩, p0, p1, p2, p3⟩ := hSw); (first | (go_simp; done) | (go_simp; with_reducible rfl) | (with_reducible rfl))
          try simp only [Act.put, List.setIfInBounds_toArray, List.set_cons_zero, List.set_cons_succ]
          refine wpAnyH_take (i := 1) (oi := { dst := some 24, op := Op.load 3 (Operand.tmp 23), type := 3, pos := "l07_plan.go:64", after := #[{ on := 0, ground := Ground.data }], guard := none }) (v := ?ve1) rfl (by kernel_rfl) (by kernel_rfl) (by kernel_rfl) (fun _ _ _ h => h) (Or.inl ⟨by rfl, ?hye1⟩) (by assumption) ?reste1
          case hye1 => intro w hSw; (try dsimp only at hSw); (obtain ⟨⟨q0, q1, q2, q3, q4, q5, q6, q7, q8, q9⟩, p0, p1, p2, p3⟩ := hSw); (first | (go_simp; done) | (go_simp; with_reducible rfl) | (with_reducible rfl))
          try simp only [Act.put, List.setIfInBounds_toArray, List.set_cons_zero, List.set_cons_succ]
          refine wpAnyH_take (i := 2) (oi := { dst := some 25, op := Op.move (Operand.tmp 6), type := 3, pos := "l07_plan.go:64", after := #[], guard := none }) (v := ?ve2) rfl (by kernel_rfl) (by kernel_rfl) (by kernel_rfl) (fun _ _ _ h => h) (Or.inl ⟨by rfl, ?hye2⟩) (by assumption) ?reste2
          case hye2 => intro w hSw; (try dsimp only at hSw); (obtain ⟨⟨q0, q1, q2, q3, q4, q5, q6, q7, q8, q9⟩, p0, p1, p2, p3⟩ := hSw); (first | (go_simp; done) | (go_simp; with_reducible rfl) | (with_reducible rfl))
          try simp only [Act.put, List.setIfInBounds_toArray, List.set_cons_zero, List.set_cons_succ]
          refine wpAnyH_take (i := 5) (oi := { dst := some 28, op := Op.move (Operand.tmp 1), type := 3, pos := "l07_plan.go:64", after := #[], guard := none }) (v := ?ve5) rfl (by kernel_rfl) (by kernel_rfl) (by kernel_rfl) (fun _ _ _ h => h) (Or.inl ⟨by rfl, ?hye5⟩) (by assumption) ?reste5
          case hye5 => intro w hSw; (try dsimp only at hSw); (obtain ⟨⟨q0, q1, q2, q3, q4, q5, q6, q7, q8, q9⟩, p0, p1, p2, p3⟩ := hSw); (first | (go_simp; done) | (go_simp; with_reducible rfl) | (with_reducible rfl))
          try simp only [Act.put, List.setIfInBounds_toArray, List.set_cons_zero, List.set_cons_succ]
          refine wpAnyH_ready (rs := [3]) (by kernel_rfl) (by simp) ?_
          refine AllReadyH.cons (o := { dst := some 26, op := Op.call { callee := Callee.value (Operand.func 80), args := #[Operand.tmp 25], argTypes := #[3] }, type := 3, pos := "l07_plan.go:64", after := #[{ on := 2, ground := Ground.data }], guard := none }) rfl (fun K hK => ?_) AllReadyH.nil
          go_simp
          refine (L0.out _).mono ?_
          rintro r w4 ⟨rfl, hb4'⟩
          have hb4 : Below W3.heap.size W3 w4 := (Below.refl _ _).drew.trans hb4'
          clear hb4'
          have K4 := Lib.hid (K3.out.step hb4)
          have Q4 := Lib.hid (Q.out.below hb4 sz)
          go_wp2_with fail
          refine hK.out _ _ (⟨K4.out.1.ten, Q4.out 0 _ rfl, Q4.out 1 _ rfl, Q4.out 2 _ rfl, Q4.out 3 _ rfl⟩) (fun hHeld => ?_)
          clear hK K
          try simp only [Act.put, List.setIfInBounds_toArray, List.set_cons_zero, List.set_cons_succ]
          refine wpAnyH_take (i := 4) (oi := { dst := some 27, op := Op.binOp BinOp.add 3 (Operand.tmp 24) (Operand.tmp 26) 3, type := 3, pos := "l07_plan.go:64", after := #[{ on := 1, ground := Ground.data }, { on := 3, ground := Ground.data }], guard := none }) (v := ?ve4) rfl (by kernel_rfl) (by kernel_rfl) (by kernel_rfl) (fun _ _ _ h => h) (Or.inl ⟨by rfl, ?hye4⟩) (by assumption) ?reste4
          case hye4 => intro w hSw; (try dsimp only at hSw); (obtain ⟨⟨q0, q1, q2, q3, q4, q5, q6, q7, q8, q9⟩, p0, p1, p2, p3⟩ := hSw); (first | (go_simp; done) | (go_simp; with_reducible rfl) | (with_reducible rfl))
          try simp only [Act.put, List.setIfInBounds_toArray, List.set_cons_zero, List.set_cons_succ]
          refine wpAnyH_take (i := 6) (oi := { dst := some 29, op := Op.binOp BinOp.leq 3 (Operand.tmp 27) (Operand.tmp 28) 3, type := 4, pos := "l07_plan.go:64", after := #[{ on := 4, ground := Ground.data }, { on := 5, ground := Ground.data }], guard := none }) (v := ?ve6) rfl (by kernel_rfl) (by kernel_rfl) (by kernel_rfl) (fun _ _ _ h => h) (Or.inl ⟨by rfl, ?hye6⟩) (by assumption) ?reste6
          case hye6 => intro w hSw; (try dsimp only at hSw); (obtain ⟨⟨q0, q1, q2, q3, q4, q5, q6, q7, q8, q9⟩, p0, p1, p2, p3⟩ := hSw); (first | (go_simp; done) | (go_simp; with_reducible rfl) | (with_reducible rfl))
          try simp only [Act.put, List.setIfInBounds_toArray, List.set_cons_zero, List.set_cons_succ]
          rw [HWd.out]
          refine wpAnyH_take (i := 7) (oi := { dst := some 30, op := Op.move (Operand.tmp 29), type := 4, pos := "l07_plan.go:64", after := #[{ on := 6, ground := Ground.data }, { on := 3, ground := Ground.chain }], guard := none }) (v := ?ve7) rfl (by kernel_rfl) (by kernel_rfl) (by kernel_rfl) (fun _ _ _ h => h) (Or.inl ⟨by rfl, ?hye7⟩) (by assumption) ?reste7
          case hye7 => intro w hSw; (try dsimp only at hSw); (obtain ⟨⟨q0, q1, q2, q3, q4, q5, q6, q7, q8, q9⟩, p0, p1, p2, p3⟩ := hSw); (first | (go_simp; done) | (go_simp; with_reducible rfl) | (with_reducible rfl))
          try simp only [Act.put, List.setIfInBounds_toArray, List.set_cons_zero, List.set_cons_succ]
          refine wpAnyH_take (i := 8) (oi := { dst := some 31, op := Op.move (Operand.tmp 6), type := 3, pos := "l07_plan.go:64", after := #[{ on := 7, ground := Ground.guard }], guard := some (7, true) }) (v := undef) rfl (by kernel_rfl) (by kernel_rfl) (by kernel_rfl) (fun _ _ _ h => h) (Or.inr ⟨by rfl, rfl⟩) (by assumption) ?_
          try simp only [Act.put, List.setIfInBounds_toArray, List.set_cons_zero, List.set_cons_succ]
          refine wpAnyH_take (i := 9) (oi := { dst := some 32, op := Op.binOp BinOp.eql 3 (Operand.tmp 31) (Operand.const (Value.int IntKind.i64 2)) 3, type := 4, pos := "l07_plan.go:64", after := #[{ on := 8, ground := Ground.data }, { on := 7, ground := Ground.guard }], guard := some (7, true) }) (v := undef) rfl (by kernel_rfl) (by kernel_rfl) (by kernel_rfl) (fun _ _ _ h => h) (Or.inr ⟨by rfl, rfl⟩) (by assumption) ?_
          try simp only [Act.put, List.setIfInBounds_toArray, List.set_cons_zero, List.set_cons_succ]
          refine wpAnyH_take (i := 10) (oi := { dst := some 33, op := Op.move (Operand.tmp 32), type := 4, pos := "l07_plan.go:64", after := #[{ on := 9, ground := Ground.data }, { on := 7, ground := Ground.chain }, { on := 7, ground := Ground.guard }], guard := some (7, true) }) (v := undef) rfl (by kernel_rfl) (by kernel_rfl) (by kernel_rfl) (fun _ _ _ h => h) (Or.inr ⟨by rfl, rfl⟩) (by assumption) ?_
          try simp only [Act.put, List.setIfInBounds_toArray, List.set_cons_zero, List.set_cons_succ]
          refine wpAnyH_take (i := 11) (oi := { dst := some 34, op := Op.fieldAddr 44 (Operand.tmp 8) 2, type := 0, pos := "l07_plan.go:64", after := #[{ on := 10, ground := Ground.guard }], guard := some (10, false) }) (v := undef) rfl (by kernel_rfl) (by kernel_rfl) (by kernel_rfl) (fun _ _ _ h => h) (Or.inr ⟨by rfl, rfl⟩) (by assumption) ?_
          try simp only [Act.put, List.setIfInBounds_toArray, List.set_cons_zero, List.set_cons_succ]
          refine wpAnyH_take (i := 12) (oi := { dst := some 35, op := Op.load 3 (Operand.tmp 34), type := 3, pos := "l07_plan.go:64", after := #[{ on := 11, ground := Ground.data }, { on := 10, ground := Ground.guard }], guard := some (10, false) }) (v := undef) rfl (by kernel_rfl) (by kernel_rfl) (by kernel_rfl) (fun _ _ _ h => h) (Or.inr ⟨by rfl, rfl⟩) (by assumption) ?_
          try simp only [Act.put, List.setIfInBounds_toArray, List.set_cons_zero, List.set_cons_succ]
          refine wpAnyH_take (i := 13) (oi := { dst := some 36, op := Op.move (Operand.tmp 6), type := 3, pos := "l07_plan.go:64", after := #[{ on := 10, ground := Ground.guard }], guard := some (10, false) }) (v := undef) rfl (by kernel_rfl) (by kernel_rfl) (by kernel_rfl) (fun _ _ _ h => h) (Or.inr ⟨by rfl, rfl⟩) (by assumption) ?_
          try simp only [Act.put, List.setIfInBounds_toArray, List.set_cons_zero, List.set_cons_succ]
          refine wpAnyH_take (i := 14) (oi := { dst := some 37, op := Op.binOp BinOp.add 3 (Operand.tmp 36) (Operand.const (Value.int IntKind.i64 1)) 3, type := 3, pos := "l07_plan.go:64", after := #[{ on := 13, ground := Ground.data }, { on := 10, ground := Ground.guard }], guard := some (10, false) }) (v := undef) rfl (by kernel_rfl) (by kernel_rfl) (by kernel_rfl) (fun _ _ _ h => h) (Or.inr ⟨by rfl, rfl⟩) (by assumption) ?_
          try simp only [Act.put, List.setIfInBounds_toArray, List.set_cons_zero, List.set_cons_succ]
          refine wpAnyH_take (i := 15) (oi := { dst := some 38, op := Op.fieldAddr 33 (Operand.tmp 2) 5, type := 0, pos := "l07_plan.go:64", after := #[{ on := 10, ground := Ground.guard }], guard := some (10, false) }) (v := undef) rfl (by kernel_rfl) (by kernel_rfl) (by kernel_rfl) (fun _ _ _ h => h) (Or.inr ⟨by rfl, rfl⟩) (by assumption) ?_
          try simp only [Act.put, List.setIfInBounds_toArray, List.set_cons_zero, List.set_cons_succ]
          refine wpAnyH_take (i := 16) (oi := { dst := some 39, op := Op.indexAddr 24 (Operand.tmp 38) (Operand.tmp 37), type := 0, pos := "l07_plan.go:64", after := #[{ on := 15, ground := Ground.data }, { on := 14, ground := Ground.data }, { on := 10, ground := Ground.guard }], guard := some (10, false) }) (v := undef) rfl (by kernel_rfl) (by kernel_rfl) (by kernel_rfl) (fun _ _ _ h => h) (Or.inr ⟨by rfl, rfl⟩) (by assumption) ?_
          try simp only [Act.put, List.setIfInBounds_toArray, List.set_cons_zero, List.set_cons_succ]
          refine wpAnyH_take (i := 17) (oi := { dst := some 40, op := Op.load 3 (Operand.tmp 39), type := 3, pos := "l07_plan.go:64", after := #[{ on := 16, ground := Ground.data }, { on := 10, ground := Ground.guard }], guard := some (10, false) }) (v := undef) rfl (by kernel_rfl) (by kernel_rfl) (by kernel_rfl) (fun _ _ _ h => h) (Or.inr ⟨by rfl, rfl⟩) (by assumption) ?_
          try simp only [Act.put, List.setIfInBounds_toArray, List.set_cons_zero, List.set_cons_succ]
          refine wpAnyH_take (i := 18) (oi := { dst := some 41, op := Op.binOp BinOp.leq 3 (Operand.tmp 35) (Operand.tmp 40) 3, type := 4, pos := "l07_plan.go:64", after := #[{ on := 12, ground := Ground.data }, { on := 17, ground := Ground.data }, { on := 10, ground := Ground.guard }], guard := some (10, false) }) (v := undef) rfl (by kernel_rfl) (by kernel_rfl) (by kernel_rfl) (fun _ _ _ h => h) (Or.inr ⟨by rfl, rfl⟩) (by assumption) ?_
          try simp only [Act.put, List.setIfInBounds_toArray, List.set_cons_zero, List.set_cons_succ]
          refine wpAnyH_take (i := 19) (oi := { dst := some 42, op := Op.pick (Operand.tmp 33) (Operand.const (Value.bool true)) (Operand.tmp 41), type := 4, pos := "l07_plan.go:64", after := #[{ on := 10, ground := Ground.data }, { on := 18, ground := Ground.data }, { on := 7, ground := Ground.guard }], guard := some (7, true) }) (v := undef) rfl (by kernel_rfl) (by kernel_rfl) (by kernel_rfl) (fun _ _ _ h => h) (Or.inr ⟨by rfl, rfl⟩) (by assumption) ?_
          try simp only [Act.put, List.setIfInBounds_toArray, List.set_cons_zero, List.set_cons_succ]
          refine wpAnyH_take (i := 20) (oi := { dst := some 43, op := Op.pick (Operand.tmp 30) (Operand.tmp 42) (Operand.const (Value.bool false)), type := 4, pos := "l07_plan.go:64", after := #[{ on := 7, ground := Ground.data }, { on := 19, ground := Ground.data }], guard := none }) (v := ?ve20) rfl (by kernel_rfl) (by kernel_rfl) (by kernel_rfl) (fun _ _ _ h => h) (Or.inl ⟨by rfl, ?hye20⟩) (by assumption) ?reste20
          case hye20 => intro w hSw; (try dsimp only at hSw); (obtain ⟨⟨q0, q1, q2, q3, q4, q5, q6, q7, q8, q9⟩, p0, p1, p2, p3⟩ := hSw); (first | (go_simp; done) | (go_simp; with_reducible rfl) | (with_reducible rfl))
          try simp only [Act.put, List.setIfInBounds_toArray, List.set_cons_zero, List.set_cons_succ]
          refine wpAnyH_done (by kernel_rfl) ?_ _
          refine NoPanic.normal ?_
          clear hHeld CS QS hb4
          go_wp2_with fail
          go_roundw
          case rel => exact ⟨1, by omega, rfl, HA2, K4⟩
          case measure => simp [intOf]
        have dd : decide (ef + 40 ≤ now) = true := by simpa using hage
        have HWd := Lib.hid (show decide (IntKind.i64.wrap (ef + 40) ≤ now) = true from by rw [HW.out]; exact dd)
        have HAG : Hid (∀ b, decide (ef ≤ s.hi.b) = b → ageB s now 0 ⟨0, eb, ef, ek⟩ = b) := Lib.hid fun b hb => by
          rw [← hb]; unfold ageB upB; show (decide (ef + 40 ≤ now) && _) = _; rw [dd]; simp [GTri.at]
        clear hage dd
        refine wp_region_noPanic ?_
        refine wp_region_held_drew (S := (fun w' => (w'.cell? ⟨x0, 0, none⟩ = some (.int .i64 s.sq) ∧ w'.cell? ⟨x0, 1, none⟩ = some (.int .i64 s.fe) ∧ w'.cell? ⟨x0, 2, none⟩ = some (.slice (some ⟨b1, o1, none⟩) s.ents.length c) ∧ w'.cell? ⟨x0, 3, none⟩ = some (.slice A2 s.tmbs.length c2) ∧ w'.cell? ⟨x0, 4, none⟩ = some (.int .i64 s.lo.a) ∧ w'.cell? ⟨x0, 5, none⟩ = some (.int .i64 s.lo.b) ∧ w'.cell? ⟨x0, 6, none⟩ = some (.int .i64 s.lo.c) ∧ w'.cell? ⟨x0, 7, none⟩ = some (.int .i64 s.hi.a) ∧ w'.cell? ⟨x0, 8, none⟩ = some (.int .i64 s.hi.b) ∧ w'.cell? ⟨x0, 9, none⟩ = some (.int .i64 s.hi.c)) ∧ w'.cell? ⟨z, 0, none⟩ = some (.int .i64 0) ∧ w'.cell? ⟨z, 1, none⟩ = some (.int .i64 eb) ∧ w'.cell? ⟨z, 2, none⟩ = some (.int .i64 ef) ∧ w'.cell? ⟨z, 3, none⟩ = some (.string ek))) (by kernel_rfl) (⟨CS, QS⟩) (fun hHeld => ?_)
        refine wpAnyH_take (i := 0) (oi := { dst := some 23, op := Op.fieldAddr 44 (Operand.tmp 8) 2, type := 0, pos := "l07_plan.go:64", after := #[], guard := none }) (v := ?vf0) rfl (by kernel_rfl) (by kernel_rfl) (by kernel_rfl) (fun _ _ _ h => h) (Or.inl ⟨by rfl, ?hyf0⟩) (by assumption) ?restf0
        case hyf0 => intro w hSw; (try dsimp only at hSw); (obtain ⟨⟨q0, q1, q2, q3, q4, q5, q6, q7, q8, q9⟩, p0, p1, p2, p3⟩ := hSw); (first | (go_simp; done) | (go_simp; with_reducible rfl) | (with_reducible rfl))
        try simp only [Act.put, List.setIfInBounds_toArray, List.set_cons_zero, List.set_cons_succ]
        refine wpAnyH_take (i := 1) (oi := { dst := some 24, op := Op.load 3 (Operand.tmp 23), type := 3, pos := "l07_plan.go:64", after := #[{ on := 0, ground := Ground.data }], guard := none }) (v := ?vf1) rfl (by kernel_rfl) (by kernel_rfl) (by kernel_rfl) (fun _ _ _ h => h) (Or.inl ⟨by rfl, ?hyf1⟩) (by assumption) ?restf1
        case hyf1 => intro w hSw; (try dsimp only at hSw); (obtain ⟨⟨q0, q1, q2, q3, q4, q5, q6, q7, q8, q9⟩, p0, p1, p2, p3⟩ := hSw); (first | (go_simp; done) | (go_simp; with_reducible rfl) | (with_reducible rfl))
        try simp only [Act.put, List.setIfInBounds_toArray, List.set_cons_zero, List.set_cons_succ]
        refine wpAnyH_take (i := 2) (oi := { dst := some 25, op := Op.move (Operand.tmp 6), type := 3, pos := "l07_plan.go:64", after := #[], guard := none }) (v := ?vf2) rfl (by kernel_rfl) (by kernel_rfl) (by kernel_rfl) (fun _ _ _ h => h) (Or.inl ⟨by rfl, ?hyf2⟩) (by assumption) ?restf2
        case hyf2 => intro w hSw; (try dsimp only at hSw); (obtain ⟨⟨q0, q1, q2, q3, q4, q5, q6, q7, q8, q9⟩, p0, p1, p2, p3⟩ := hSw); (first | (go_simp; done) | (go_simp; with_reducible rfl) | (with_reducible rfl))
        try simp only [Act.put, List.setIfInBounds_toArray, List.set_cons_zero, List.set_cons_succ]
        refine wpAnyH_take (i := 5) (oi := { dst := some 28, op := Op.move (Operand.tmp 1), type := 3, pos := "l07_plan.go:64", after := #[], guard := none }) (v := ?vf5) rfl (by kernel_rfl) (by kernel_rfl) (by kernel_rfl) (fun _ _ _ h => h) (Or.inl ⟨by rfl, ?hyf5⟩) (by assumption) ?restf5
        case hyf5 => intro w hSw; (try dsimp only at hSw); (obtain ⟨⟨q0, q1, q2, q3, q4, q5, q6, q7, q8, q9⟩, p0, p1, p2, p3⟩ := hSw); (first | (go_simp; done) | (go_simp; with_reducible rfl) | (with_reducible rfl))
        try simp only [Act.put, List.setIfInBounds_toArray, List.set_cons_zero, List.set_cons_succ]
        refine wpAnyH_ready (rs := [3]) (by kernel_rfl) (by simp) ?_
        refine AllReadyH.cons (o := { dst := some 26, op := Op.call { callee := Callee.value (Operand.func 80), args := #[Operand.tmp 25], argTypes := #[3] }, type := 3, pos := "l07_plan.go:64", after := #[{ on := 2, ground := Ground.data }], guard := none }) rfl (fun K hK => ?_) AllReadyH.nil
        go_simp
        refine (L0.out _).mono ?_
        rintro r w4 ⟨rfl, hb4'⟩
        have hb4 : Below W3.heap.size W3 w4 := (Below.refl _ _).drew.trans hb4'
        clear hb4'
        have K4 := Lib.hid (K3.out.step hb4)
        have Q4 := Lib.hid (Q.out.below hb4 sz)
        go_wp2_with fail
        refine hK.out _ _ (⟨K4.out.1.ten, Q4.out 0 _ rfl, Q4.out 1 _ rfl, Q4.out 2 _ rfl, Q4.out 3 _ rfl⟩) (fun hHeld => ?_)
        clear hK K
        try simp only [Act.put, List.setIfInBounds_toArray, List.set_cons_zero, List.set_cons_succ]
        refine wpAnyH_take (i := 4) (oi := { dst := some 27, op := Op.binOp BinOp.add 3 (Operand.tmp 24) (Operand.tmp 26) 3, type := 3, pos := "l07_plan.go:64", after := #[{ on := 1, ground := Ground.data }, { on := 3, ground := Ground.data }], guard := none }) (v := ?vf4) rfl (by kernel_rfl) (by kernel_rfl) (by kernel_rfl) (fun _ _ _ h => h) (Or.inl ⟨by rfl, ?hyf4⟩) (by assumption) ?restf4
        case hyf4 => intro w hSw; (try dsimp only at hSw); (obtain ⟨⟨q0, q1, q2, q3, q4, q5, q6, q7, q8, q9⟩, p0, p1, p2, p3⟩ := hSw); (first | (go_simp; done) | (go_simp; with_reducible rfl) | (with_reducible rfl))
        try simp only [Act.put, List.setIfInBounds_toArray, List.set_cons_zero, List.set_cons_succ]
        refine wpAnyH_take (i := 6) (oi := { dst := some 29, op := Op.binOp BinOp.leq 3 (Operand.tmp 27) (Operand.tmp 28) 3, type := 4, pos := "l07_plan.go:64", after := #[{ on := 4, ground := Ground.data }, { on := 5, ground := Ground.data }], guard := none }) (v := ?vf6) rfl (by kernel_rfl) (by kernel_rfl) (by kernel_rfl) (fun _ _ _ h => h) (Or.inl ⟨by rfl, ?hyf6⟩) (by assumption) ?restf6
        case hyf6 => intro w hSw; (try dsimp only at hSw); (obtain ⟨⟨q0, q1, q2, q3, q4, q5, q6, q7, q8, q9⟩, p0, p1, p2, p3⟩ := hSw); (first | (go_simp; done) | (go_simp; with_reducible rfl) | (with_reducible rfl))
        try simp only [Act.put, List.setIfInBounds_toArray, List.set_cons_zero, List.set_cons_succ]
        rw [HWd.out]
        refine wpAnyH_take (i := 7) (oi := { dst := some 30, op := Op.move (Operand.tmp 29), type := 4, pos := "l07_plan.go:64", after := #[{ on := 6, ground := Ground.data }, { on := 3, ground := Ground.chain }], guard := none }) (v := ?vf7) rfl (by kernel_rfl) (by kernel_rfl) (by kernel_rfl) (fun _ _ _ h => h) (Or.inl ⟨by rfl, ?hyf7⟩) (by assumption) ?restf7
        case hyf7 => intro w hSw; (try dsimp only at hSw); (obtain ⟨⟨q0, q1, q2, q3, q4, q5, q6, q7, q8, q9⟩, p0, p1, p2, p3⟩ := hSw); (first | (go_simp; done) | (go_simp; with_reducible rfl) | (with_reducible rfl))
        try simp only [Act.put, List.setIfInBounds_toArray, List.set_cons_zero, List.set_cons_succ]
        refine wpAnyH_take (i := 8) (oi := { dst := some 31, op := Op.move (Operand.tmp 6), type := 3, pos := "l07_plan.go:64", after := #[{ on := 7, ground := Ground.guard }], guard := some (7, true) }) (v := ?vf8) rfl (by kernel_rfl) (by kernel_rfl) (by kernel_rfl) (fun _ _ _ h => h) (Or.inl ⟨by rfl, ?hyf8⟩) (by assumption) ?restf8
        case hyf8 => intro w hSw; (try dsimp only at hSw); (obtain ⟨⟨q0, q1, q2, q3, q4, q5, q6, q7, q8, q9⟩, p0, p1, p2, p3⟩ := hSw); (first | (go_simp; done) | (go_simp; with_reducible rfl) | (with_reducible rfl))
        try simp only [Act.put, List.setIfInBounds_toArray, List.set_cons_zero, List.set_cons_succ]
        refine wpAnyH_take (i := 9) (oi := { dst := some 32, op := Op.binOp BinOp.eql 3 (Operand.tmp 31) (Operand.const (Value.int IntKind.i64 2)) 3, type := 4, pos := "l07_plan.go:64", after := #[{ on := 8, ground := Ground.data }, { on := 7, ground := Ground.guard }], guard := some (7, true) }) (v := ?vf9) rfl (by kernel_rfl) (by kernel_rfl) (by kernel_rfl) (fun _ _ _ h => h) (Or.inl ⟨by rfl, ?hyf9⟩) (by assumption) ?restf9
        case hyf9 => intro w hSw; (try dsimp only at hSw); (obtain ⟨⟨q0, q1, q2, q3, q4, q5, q6, q7, q8, q9⟩, p0, p1, p2, p3⟩ := hSw); (first | (go_simp; done) | (go_simp; with_reducible rfl) | (with_reducible rfl))
        try simp only [Act.put, List.setIfInBounds_toArray, List.set_cons_zero, List.set_cons_succ]
        refine wpAnyH_take (i := 10) (oi := { dst := some 33, op := Op.move (Operand.tmp 32), type := 4, pos := "l07_plan.go:64", after := #[{ on := 9, ground := Ground.data }, { on := 7, ground := Ground.chain }, { on := 7, ground := Ground.guard }], guard := some (7, true) }) (v := ?vf10) rfl (by kernel_rfl) (by kernel_rfl) (by kernel_rfl) (fun _ _ _ h => h) (Or.inl ⟨by rfl, ?hyf10⟩) (by assumption) ?restf10
        case hyf10 => intro w hSw; (try dsimp only at hSw); (obtain ⟨⟨q0, q1, q2, q3, q4, q5, q6, q7, q8, q9⟩, p0, p1, p2, p3⟩ := hSw); (first | (go_simp; done) | (go_simp; with_reducible rfl) | (with_reducible rfl))
        try simp only [Act.put, List.setIfInBounds_toArray, List.set_cons_zero, List.set_cons_succ]
        refine wpAnyH_take (i := 11) (oi := { dst := some 34, op := Op.fieldAddr 44 (Operand.tmp 8) 2, type := 0, pos := "l07_plan.go:64", after := #[{ on := 10, ground := Ground.guard }], guard := some (10, false) }) (v := ?vf11) rfl (by kernel_rfl) (by kernel_rfl) (by kernel_rfl) (fun _ _ _ h => h) (Or.inl ⟨by rfl, ?hyf11⟩) (by assumption) ?restf11
        case hyf11 => intro w hSw; (try dsimp only at hSw); (obtain ⟨⟨q0, q1, q2, q3, q4, q5, q6, q7, q8, q9⟩, p0, p1, p2, p3⟩ := hSw); (first | (go_simp; done) | (go_simp; with_reducible rfl) | (with_reducible rfl))
        try simp only [Act.put, List.setIfInBounds_toArray, List.set_cons_zero, List.set_cons_succ]
        refine wpAnyH_take (i := 12) (oi := { dst := some 35, op := Op.load 3 (Operand.tmp 34), type := 3, pos := "l07_plan.go:64", after := #[{ on := 11, ground := Ground.data }, { on := 10, ground := Ground.guard }], guard := some (10, false) }) (v := ?vf12) rfl (by kernel_rfl) (by kernel_rfl) (by kernel_rfl) (fun _ _ _ h => h) (Or.inl ⟨by rfl, ?hyf12⟩) (by assumption) ?restf12
        case hyf12 => intro w hSw; (try dsimp only at hSw); (obtain ⟨⟨q0, q1, q2, q3, q4, q5, q6, q7, q8, q9⟩, p0, p1, p2, p3⟩ := hSw); (first | (go_simp; done) | (go_simp; with_reducible rfl) | (with_reducible rfl))
        try simp only [Act.put, List.setIfInBounds_toArray, List.set_cons_zero, List.set_cons_succ]
        refine wpAnyH_take (i := 13) (oi := { dst := some 36, op := Op.move (Operand.tmp 6), type := 3, pos := "l07_plan.go:64", after := #[{ on := 10, ground := Ground.guard }], guard := some (10, false) }) (v := ?vf13) rfl (by kernel_rfl) (by kernel_rfl) (by kernel_rfl) (fun _ _ _ h => h) (Or.inl ⟨by rfl, ?hyf13⟩) (by assumption) ?restf13
        case hyf13 => intro w hSw; (try dsimp only at hSw); (obtain ⟨⟨q0, q1, q2, q3, q4, q5, q6, q7, q8, q9⟩, p0, p1, p2, p3⟩ := hSw); (first | (go_simp; done) | (go_simp; with_reducible rfl) | (with_reducible rfl))
        try simp only [Act.put, List.setIfInBounds_toArray, List.set_cons_zero, List.set_cons_succ]
        refine wpAnyH_take (i := 14) (oi := { dst := some 37, op := Op.binOp BinOp.add 3 (Operand.tmp 36) (Operand.const (Value.int IntKind.i64 1)) 3, type := 3, pos := "l07_plan.go:64", after := #[{ on := 13, ground := Ground.data }, { on := 10, ground := Ground.guard }], guard := some (10, false) }) (v := ?vf14) rfl (by kernel_rfl) (by kernel_rfl) (by kernel_rfl) (fun _ _ _ h => h) (Or.inl ⟨by rfl, ?hyf14⟩) (by assumption) ?restf14
        case hyf14 => intro w hSw; (try dsimp only at hSw); (obtain ⟨⟨q0, q1, q2, q3, q4, q5, q6, q7, q8, q9⟩, p0, p1, p2, p3⟩ := hSw); (first | (go_simp; done) | (go_simp; with_reducible rfl) | (with_reducible rfl))
        try simp only [Act.put, List.setIfInBounds_toArray, List.set_cons_zero, List.set_cons_succ]
        rw [show IntKind.i64.wrap 1 = 1 from by rw [IntKind.wrap_i64]; rfl]
        refine wpAnyH_take (i := 15) (oi := { dst := some 38, op := Op.fieldAddr 33 (Operand.tmp 2) 5, type := 0, pos := "l07_plan.go:64", after := #[{ on := 10, ground := Ground.guard }], guard := some (10, false) }) (v := ?vf15) rfl (by kernel_rfl) (by kernel_rfl) (by kernel_rfl) (fun _ _ _ h => h) (Or.inl ⟨by rfl, ?hyf15⟩) (by assumption) ?restf15
        case hyf15 => intro w hSw; (try dsimp only at hSw); (obtain ⟨⟨q0, q1, q2, q3, q4, q5, q6, q7, q8, q9⟩, p0, p1, p2, p3⟩ := hSw); (first | (go_simp; done) | (go_simp; with_reducible rfl) | (with_reducible rfl))
        try simp only [Act.put, List.setIfInBounds_toArray, List.set_cons_zero, List.set_cons_succ]
        refine wpAnyH_take (i := 16) (oi := { dst := some 39, op := Op.indexAddr 24 (Operand.tmp 38) (Operand.tmp 37), type := 0, pos := "l07_plan.go:64", after := #[{ on := 15, ground := Ground.data }, { on := 14, ground := Ground.data }, { on := 10, ground := Ground.guard }], guard := some (10, false) }) (v := ?vf16) rfl (by kernel_rfl) (by kernel_rfl) (by kernel_rfl) (fun _ _ _ h => h) (Or.inl ⟨by rfl, ?hyf16⟩) (by assumption) ?restf16
        case hyf16 => intro w hSw; (try dsimp only at hSw); (obtain ⟨⟨q0, q1, q2, q3, q4, q5, q6, q7, q8, q9⟩, p0, p1, p2, p3⟩ := hSw); (first | (go_simp; done) | (go_simp; with_reducible rfl) | (with_reducible rfl))
        try simp only [Act.put, List.setIfInBounds_toArray, List.set_cons_zero, List.set_cons_succ]
        refine wpAnyH_take (i := 17) (oi := { dst := some 40, op := Op.load 3 (Operand.tmp 39), type := 3, pos := "l07_plan.go:64", after := #[{ on := 16, ground := Ground.data }, { on := 10, ground := Ground.guard }], guard := some (10, false) }) (v := ?vf17) rfl (by kernel_rfl) (by kernel_rfl) (by kernel_rfl) (fun _ _ _ h => h) (Or.inl ⟨by rfl, ?hyf17⟩) (by assumption) ?restf17
        case hyf17 => intro w hSw; (try dsimp only at hSw); (obtain ⟨⟨q0, q1, q2, q3, q4, q5, q6, q7, q8, q9⟩, p0, p1, p2, p3⟩ := hSw); (first | (go_simp; done) | (go_simp; with_reducible rfl) | (with_reducible rfl))
        try simp only [Act.put, List.setIfInBounds_toArray, List.set_cons_zero, List.set_cons_succ]
        refine wpAnyH_take (i := 18) (oi := { dst := some 41, op := Op.binOp BinOp.leq 3 (Operand.tmp 35) (Operand.tmp 40) 3, type := 4, pos := "l07_plan.go:64", after := #[{ on := 12, ground := Ground.data }, { on := 17, ground := Ground.data }, { on := 10, ground := Ground.guard }], guard := some (10, false) }) (v := ?vf18) rfl (by kernel_rfl) (by kernel_rfl) (by kernel_rfl) (fun _ _ _ h => h) (Or.inl ⟨by rfl, ?hyf18⟩) (by assumption) ?restf18
        case hyf18 => intro w hSw; (try dsimp only at hSw); (obtain ⟨⟨q0, q1, q2, q3, q4, q5, q6, q7, q8, q9⟩, p0, p1, p2, p3⟩ := hSw); (first | (go_simp; done) | (go_simp; with_reducible rfl) | (with_reducible rfl))
        try simp only [Act.put, List.setIfInBounds_toArray, List.set_cons_zero, List.set_cons_succ]
        refine wpAnyH_take (i := 19) (oi := { dst := some 42, op := Op.pick (Operand.tmp 33) (Operand.const (Value.bool true)) (Operand.tmp 41), type := 4, pos := "l07_plan.go:64", after := #[{ on := 10, ground := Ground.data }, { on := 18, ground := Ground.data }, { on := 7, ground := Ground.guard }], guard := some (7, true) }) (v := ?vf19) rfl (by kernel_rfl) (by kernel_rfl) (by kernel_rfl) (fun _ _ _ h => h) (Or.inl ⟨by rfl, ?hyf19⟩) (by assumption) ?restf19
        case hyf19 => intro w hSw; (try dsimp only at hSw); (obtain ⟨⟨q0, q1, q2, q3, q4, q5, q6, q7, q8, q9⟩, p0, p1, p2, p3⟩ := hSw); (first | (go_simp; done) | (go_simp; with_reducible rfl) | (with_reducible rfl))
        try simp only [Act.put, List.setIfInBounds_toArray, List.set_cons_zero, List.set_cons_succ]
        refine wpAnyH_take (i := 20) (oi := { dst := some 43, op := Op.pick (Operand.tmp 30) (Operand.tmp 42) (Operand.const (Value.bool false)), type := 4, pos := "l07_plan.go:64", after := #[{ on := 7, ground := Ground.data }, { on := 19, ground := Ground.data }], guard := none }) (v := ?vf20) rfl (by kernel_rfl) (by kernel_rfl) (by kernel_rfl) (fun _ _ _ h => h) (Or.inl ⟨by rfl, ?hyf20⟩) (by assumption) ?restf20
        case hyf20 => intro w hSw; (try dsimp only at hSw); (obtain ⟨⟨q0, q1, q2, q3, q4, q5, q6, q7, q8, q9⟩, p0, p1, p2, p3⟩ := hSw); (first | (go_simp; done) | (go_simp; with_reducible rfl) | (with_reducible rfl))
        try simp only [Act.put, List.setIfInBounds_toArray, List.set_cons_zero, List.set_cons_succ]
        refine wpAnyH_done (by kernel_rfl) ?_ _
        refine NoPanic.normal ?_
        clear hHeld CS QS hb4
        cases hup : decide (ef ≤ s.hi.b)
        · have HA2 := Lib.hid (HA.out (HAG.out _ hup))
          clear HA HV HAG
          go_wp2_with fail
          go_roundw
          case rel => exact ⟨1, by omega, rfl, HA2, K4⟩
          case measure => simp [intOf]
        · have hv := HV.out (HAG.out _ hup)
          have HVV := Lib.hid hv
          clear HA HV HAG hv
          obtain ⟨q0, q1, q2, q3⟩ : w4.cell? ⟨z, 0, none⟩ = some (.int .i64 0) ∧ w4.cell? ⟨z, 1, none⟩ = some (.int .i64 eb) ∧ w4.cell? ⟨z, 2, none⟩ = some (.int .i64 ef) ∧ w4.cell? ⟨z, 3, none⟩ = some (.string ek) := ⟨Q4.out 0 _ rfl, Q4.out 1 _ rfl, Q4.out 2 _ rfl, Q4.out 3 _ rfl⟩
          obtain ⟨z0, z1, z2, z3, f0⟩ := K4.out.zero
          go_wp2
          refine bodyPost_ret (v := .tuple #[.agg #[.int .i64 0, .int .i64 eb, .int .i64 ef, .string ek], .bool true]) (by simp [results, Tryd.results51, go_sem, *]) rfl (FIN.out _ _ HVV.out (K4.out.fin _ _ _ _))
    · obtain ⟨c0, c1, c2', c3, c4, c5, c6, c7, c8, c9⟩ := K.out.1.ten
      go_wp2_with fail
      refine (l06First_any A c A2 c2 s 1 x0 wr (HS.out _ K.out.2.2.2.2) (by have := K.out.2.2.2.1; omega) hl).mono ?_
      rintro r w2 ⟨n, hn, rfl, hb2⟩
      have K2 := Lib.hid (K.out.step hb2)
      clear K hb2 c0 c1 c2' c3 c4 c5 c6 c7 c8 c9
      rcases hn with ⟨hE, rfl⟩ | ⟨m, hm, rfl, hE, hNT⟩
      · have HA : Hid (∀ j, j < 2 → expAt s now j = none) := Lib.hid fun j hj => by
          by_cases e : j = 1
          · subst e; unfold expAt; simp [hE]
          · exact HN.out j (by omega)
        clear hE HN
        go_wp2_with fail
        go_roundw
        case rel => exact ⟨2, by omega, rfl, HA, K2⟩
        case measure => simp [intOf]
      · have hfi := HFI.out _ _ hE
        obtain ⟨b1, o1, rfl, hb1, p0, p1, p2, p3⟩ := EntsAt.one (HS.out _ K2.out.2.2.2.2).1 hm
        have i1 : (0 : Int) ≤ (m : Int) := by omega
        have i2 : (m : Int) < (s.ents.length : Int) := by omega
        have nn : decide ((m : Int) < 0) = false := by simp
        have HNT := Lib.hid hNT; clear hNT
        generalize s.ents[m] = e at *
        obtain ⟨et, eb, ef, ek⟩ := e
        obtain ⟨het, hf0, hf1⟩ : et = 1 ∧ 0 ≤ ef ∧ ef ≤ 100000 := hfi
        subst het
        have HA : Hid (ageB s now 1 ⟨1, eb, ef, ek⟩ = false → ∀ j, j < 2 → expAt s now j = none) := Lib.hid fun ha j hj => by
          by_cases e : j = 1
          · subst e; unfold expAt; simp [hE, ha]
          · exact HN.out j (by omega)
        have HV : Hid (ageB s now 1 ⟨1, eb, ef, ek⟩ = true → expV s now = some ⟨1, eb, ef, ek⟩) := Lib.hid fun ha => expV_at (k := 1) (by omega) HN.out (by unfold expAt; simp [hE, ha])
        have hw : IntKind.i64.wrap (ef + 100) = ef + 100 := by rw [IntKind.wrap_i64]; omega
        have HW := Lib.hid hw; clear hw
        have HE := Lib.hid hE; clear hE HN hf0 hf1
        obtain ⟨c0, c1, c2', c3, c4, c5, c6, c7, c8, c9⟩ := K2.out.1.ten
        clear c0 c1 c3 c4 c5 c6 c7 c8 c9
        go_wp2_with fail
        have K3 : Hid (ExpKept w x0 (some ⟨b1, o1, none⟩) c A2 c2 s (w2.alloc (.cells #[.int .i64 1, .int .i64 eb, .int .i64 ef, .string ek] 44))) := Lib.hid (K2.out.step (bal (Below.refl _ _) _))
        have sz : w2.heap.size < (w2.alloc (.cells #[.int .i64 1, .int .i64 eb, .int .i64 ef, .string ek] 44)).heap.size := by simp
        have q := Cells.new w2 [.int .i64 1, .int .i64 eb, .int .i64 ef, .string ek] 44
        clear K2 p0 p1 p2 p3 c2'
        generalize w2.alloc (.cells #[.int .i64 1, .int .i64 eb, .int .i64 ef, .string ek] 44) = W3 at *
        generalize w2.heap.size = z at *
        have Q := Lib.hid q; clear q
        have CS := K3.out.1.ten
        have QS : W3.cell? ⟨z, 0, none⟩ = some (.int .i64 1) ∧ W3.cell? ⟨z, 1, none⟩ = some (.int .i64 eb) ∧ W3.cell? ⟨z, 2, none⟩ = some (.int .i64 ef) ∧ W3.cell? ⟨z, 3, none⟩ = some (.string ek) := ⟨Q.out 0 _ rfl, Q.out 1 _ rfl, Q.out 2 _ rfl, Q.out 3 _ rfl⟩
        by_cases hage : ef + 100 ≤ now
        rotate_left
        · have dd : decide (ef + 100 ≤ now) = false := by simpa using hage
          have HWd := Lib.hid (show decide (IntKind.i64.wrap (ef + 100) ≤ now) = false from by rw [HW.out]; exact dd)
          have HA2 := Lib.hid (HA.out (by unfold ageB; show (decide (ef + 100 ≤ now) && _) = false; rw [dd]; rfl))
          clear hage HA HV dd
          refine wp_region_noPanic ?_
          refine wp_region_held_drew (S := (fun w' => (w'.cell? ⟨x0, 0, none⟩ = some (.int .i64 s.sq) ∧ w'.cell? ⟨x0, 1, none⟩ = some (.int .i64 s.fe) ∧ w'.cell? ⟨x0, 2, none⟩ = some (.slice (some ⟨b1, o1, none⟩) s.ents.length c) ∧ w'.cell? ⟨x0, 3, none⟩ = some (.slice A2 s.tmbs.length c2) ∧ w'.cell? ⟨x0, 4, none⟩ = some (.int .i64 s.lo.a) ∧ w'.cell? ⟨x0, 5, none⟩ = some (.int .i64 s.lo.b) ∧ w'.cell? ⟨x0, 6, none⟩ = some (.int .i64 s.lo.c) ∧ w'.cell? ⟨x0, 7, none⟩ = some (.int .i64 s.hi.a) ∧ w'.cell? ⟨x0, 8, none⟩ = some (.int .i64 s.hi.b) ∧ w'.cell? ⟨x0, 9, none⟩ = some (.int .i64 s.hi.c)) ∧ w'.cell? ⟨z, 0, none⟩ = some (.int .i64 1) ∧ w'.cell? ⟨z, 1, none⟩ = some (.int .i64 eb) ∧ w'.cell? ⟨z, 2, none⟩ = some (.int .i64 ef) ∧ w'.cell? ⟨z, 3, none⟩ = some (.string ek))) (by kernel_rfl) (⟨CS, QS⟩) (fun hHeld => ?_)
          refine wpAnyH_take (i := 0) (oi := { dst := some 23, op := Op.fieldAddr 44 (Operand.tmp 8) 2, type := 0, pos := "l07_plan.go:64", after := #[], guard := none }) (v := ?vg0) rfl (by kernel_rfl) (by kernel_rfl) (by kernel_rfl) (fun _ _ _ h => h) (Or.inl ⟨by rfl, ?hyg0⟩) (by assumption) ?restg0
          case hyg0 => intro w hSw; (try dsimp only at hSw); (obtain ⟨⟨q0, q1, q2, q3, q4, q5, q6, q7, q8, q9⟩, p0, p1, p2, p3⟩ := hSw); (first | (go_simp; done) | (go_simp; with_reducible rfl) | (with_reducible rfl))
          try simp only [Act.put, List.setIfInBounds_toArray, List.set_cons_zero, List.set_cons_succ]
          refine wpAnyH_take (i := 1) (oi := { dst := some 24, op := Op.load 3 (Operand.tmp 23), type := 3, pos := "l07_plan.go:64", after := #[{ on := 0, ground := Ground.data }], guard := none }) (v := ?vg1) rfl (by kernel_rfl) (by kernel_rfl) (by kernel_rfl) (fun _ _ _ h => h) (Or.inl ⟨by rfl, ?hyg1⟩) (by assumption) ?restg1
          case hyg1 => intro w hSw; (try dsimp only at hSw); (obtain ⟨⟨q0, q1, q2, q3, q4, q5, q6, q7, q8, q9⟩, p0, p1, p2, p3⟩ := hSw); (first | (go_simp; done) | (go_simp; with_reducible rfl) | (with_reducible rfl))
          try simp only [Act.put, List.setIfInBounds_toArray, List.set_cons_zero, List.set_cons_succ]
          refine wpAnyH_take (i := 2) (oi := { dst := some 25, op := Op.move (Operand.tmp 6), type := 3, pos := "l07_plan.go:64", after := #[], guard := none }) (v := ?vg2) rfl (by kernel_rfl) (by kernel_rfl) (by kernel_rfl) (fun _ _ _ h => h) (Or.inl ⟨by rfl, ?hyg2⟩) (by assumption) ?restg2
          case hyg2 => intro w hSw; (try dsimp only at hSw); (obtain ⟨⟨q0, q1, q2, q3, q4, q5, q6, q7, q8, q9⟩, p0, p1, p2, p3⟩ := hSw); (first | (go_simp; done) | (go_simp; with_reducible rfl) | (with_reducible rfl))
          try simp only [Act.put, List.setIfInBounds_toArray, List.set_cons_zero, List.set_cons_succ]
          refine wpAnyH_take (i := 5) (oi := { dst := some 28, op := Op.move (Operand.tmp 1), type := 3, pos := "l07_plan.go:64", after := #[], guard := none }) (v := ?vg5) rfl (by kernel_rfl) (by kernel_rfl) (by kernel_rfl) (fun _ _ _ h => h) (Or.inl ⟨by rfl, ?hyg5⟩) (by assumption) ?restg5
          case hyg5 => intro w hSw; (try dsimp only at hSw); (obtain ⟨⟨q0, q1, q2, q3, q4, q5, q6, q7, q8, q9⟩, p0, p1, p2, p3⟩ := hSw); (first | (go_simp; done) | (go_simp; with_reducible rfl) | (with_reducible rfl))
          try simp only [Act.put, List.setIfInBounds_toArray, List.set_cons_zero, List.set_cons_succ]
          refine wpAnyH_ready (rs := [3]) (by kernel_rfl) (by simp) ?_
          refine AllReadyH.cons (o := { dst := some 26, op := Op.call { callee := Callee.value (Operand.func 80), args := #[Operand.tmp 25], argTypes := #[3] }, type := 3, pos := "l07_plan.go:64", after := #[{ on := 2, ground := Ground.data }], guard := none }) rfl (fun K hK => ?_) AllReadyH.nil
          go_simp
          refine (L1.out _).mono ?_
          rintro r w4 ⟨rfl, hb4'⟩
          have hb4 : Below W3.heap.size W3 w4 := (Below.refl _ _).drew.trans hb4'
          clear hb4'
          have K4 := Lib.hid (K3.out.step hb4)
          have Q4 := Lib.hid (Q.out.below hb4 sz)
          go_wp2_with fail
          refine hK.out _ _ (⟨K4.out.1.ten, Q4.out 0 _ rfl, Q4.out 1 _ rfl, Q4.out 2 _ rfl, Q4.out 3 _ rfl⟩) (fun hHeld => ?_)
          clear hK K
          try simp only [Act.put, List.setIfInBounds_toArray, List.set_cons_zero, List.set_cons_succ]
          refine wpAnyH_take (i := 4) (oi := { dst := some 27, op := Op.binOp BinOp.add 3 (Operand.tmp 24) (Operand.tmp 26) 3, type := 3, pos := "l07_plan.go:64", after := #[{ on := 1, ground := Ground.data }, { on := 3, ground := Ground.data }], guard := none }) (v := ?vg4) rfl (by kernel_rfl) (by kernel_rfl) (by kernel_rfl) (fun _ _ _ h => h) (Or.inl ⟨by rfl, ?hyg4⟩) (by assumption) ?restg4
          case hyg4 => intro w hSw; (try dsimp only at hSw); (obtain ⟨⟨q0, q1, q2, q3, q4, q5, q6, q7, q8, q9⟩, p0, p1, p2, p3⟩ := hSw); (first | (go_simp; done) | (go_simp; with_reducible rfl) | (with_reducible rfl))
          try simp only [Act.put, List.setIfInBounds_toArray, List.set_cons_zero, List.set_cons_succ]
          refine wpAnyH_take (i := 6) (oi := { dst := some 29, op := Op.binOp BinOp.leq 3 (Operand.tmp 27) (Operand.tmp 28) 3, type := 4, pos := "l07_plan.go:64", after := #[{ on := 4, ground := Ground.data }, { on := 5, ground := Ground.data }], guard := none }) (v := ?vg6) rfl (by kernel_rfl) (by kernel_rfl) (by kernel_rfl) (fun _ _ _ h => h) (Or.inl ⟨by rfl, ?hyg6⟩) (by assumption) ?restg6
          case hyg6 => intro w hSw; (try dsimp only at hSw); (obtain ⟨⟨q0, q1, q2, q3, q4, q5, q6, q7, q8, q9⟩, p0, p1, p2, p3⟩ := hSw); (first | (go_simp; done) | (go_simp; with_reducible rfl) | (with_reducible rfl))
          try simp only [Act.put, List.setIfInBounds_toArray, List.set_cons_zero, List.set_cons_succ]
          rw [HWd.out]
          refine wpAnyH_take (i := 7) (oi := { dst := some 30, op := Op.move (Operand.tmp 29), type := 4, pos := "l07_plan.go:64", after := #[{ on := 6, ground := Ground.data }, { on := 3, ground := Ground.chain }], guard := none }) (v := ?vg7) rfl (by kernel_rfl) (by kernel_rfl) (by kernel_rfl) (fun _ _ _ h => h) (Or.inl ⟨by rfl, ?hyg7⟩) (by assumption) ?restg7
          case hyg7 => intro w hSw; (try dsimp only at hSw); (obtain ⟨⟨q0, q1, q2, q3, q4, q5, q6, q7, q8, q9⟩, p0, p1, p2, p3⟩ := hSw); (first | (go_simp; done) | (go_simp; with_reducible rfl) | (with_reducible rfl))
          try simp only [Act.put, List.setIfInBounds_toArray, List.set_cons_zero, List.set_cons_succ]
          refine wpAnyH_take (i := 8) (oi := { dst := some 31, op := Op.move (Operand.tmp 6), type := 3, pos := "l07_plan.go:64", after := #[{ on := 7, ground := Ground.guard }], guard := some (7, true) }) (v := undef) rfl (by kernel_rfl) (by kernel_rfl) (by kernel_rfl) (fun _ _ _ h => h) (Or.inr ⟨by rfl, rfl⟩) (by assumption) ?_
          try simp only [Act.put, List.setIfInBounds_toArray, List.set_cons_zero, List.set_cons_succ]
          refine wpAnyH_take (i := 9) (oi := { dst := some 32, op := Op.binOp BinOp.eql 3 (Operand.tmp 31) (Operand.const (Value.int IntKind.i64 2)) 3, type := 4, pos := "l07_plan.go:64", after := #[{ on := 8, ground := Ground.data }, { on := 7, ground := Ground.guard }], guard := some (7, true) }) (v := undef) rfl (by kernel_rfl) (by kernel_rfl) (by kernel_rfl) (fun _ _ _ h => h) (Or.inr ⟨by rfl, rfl⟩) (by assumption) ?_
          try simp only [Act.put, List.setIfInBounds_toArray, List.set_cons_zero, List.set_cons_succ]
          refine wpAnyH_take (i := 10) (oi := { dst := some 33, op := Op.move (Operand.tmp 32), type := 4, pos := "l07_plan.go:64", after := #[{ on := 9, ground := Ground.data }, { on := 7, ground := Ground.chain }, { on := 7, ground := Ground.guard }], guard := some (7, true) }) (v := undef) rfl (by kernel_rfl) (by kernel_rfl) (by kernel_rfl) (fun _ _ _ h => h) (Or.inr ⟨by rfl, rfl⟩) (by assumption) ?_
          try simp only [Act.put, List.setIfInBounds_toArray, List.set_cons_zero, List.set_cons_succ]
          refine wpAnyH_take (i := 11) (oi := { dst := some 34, op := Op.fieldAddr 44 (Operand.tmp 8) 2, type := 0, pos := "l07_plan.go:64", after := #[{ on := 10, ground := Ground.guard }], guard := some (10, false) }) (v := undef) rfl (by kernel_rfl) (by kernel_rfl) (by kernel_rfl) (fun _ _ _ h => h) (Or.inr ⟨by rfl, rfl⟩) (by assumption) ?_
          try simp only [Act.put, List.setIfInBounds_toArray, List.set_cons_zero, List.set_cons_succ]
          refine wpAnyH_take (i := 12) (oi := { dst := some 35, op := Op.load 3 (Operand.tmp 34), type := 3, pos := "l07_plan.go:64", after := #[{ on := 11, ground := Ground.data }, { on := 10, ground := Ground.guard }], guard := some (10, false) }) (v := undef) rfl (by kernel_rfl) (by kernel_rfl) (by kernel_rfl) (fun _ _ _ h => h) (Or.inr ⟨by rfl, rfl⟩) (by assumption) ?_
          try simp only [Act.put, List.setIfInBounds_toArray, List.set_cons_zero, List.set_cons_succ]
          refine wpAnyH_take (i := 13) (oi := { dst := some 36, op := Op.move (Operand.tmp 6), type := 3, pos := "l07_plan.go:64", after := #[{ on := 10, ground := Ground.guard }], guard := some (10, false) }) (v := undef) rfl (by kernel_rfl) (by kernel_rfl) (by kernel_rfl) (fun _ _ _ h => h) (Or.inr ⟨by rfl, rfl⟩) (by assumption) ?_
          try simp only [Act.put, List.setIfInBounds_toArray, List.set_cons_zero, List.set_cons_succ]
          refine wpAnyH_take (i := 14) (oi := { dst := some 37, op := Op.binOp BinOp.add 3 (Operand.tmp 36) (Operand.const (Value.int IntKind.i64 1)) 3, type := 3, pos := "l07_plan.go:64", after := #[{ on := 13, ground := Ground.data }, { on := 10, ground := Ground.guard }], guard := some (10, false) }) (v := undef) rfl (by kernel_rfl) (by kernel_rfl) (by kernel_rfl) (fun _ _ _ h => h) (Or.inr ⟨by rfl, rfl⟩) (by assumption) ?_
          try simp only [Act.put, List.setIfInBounds_toArray, List.set_cons_zero, List.set_cons_succ]
          refine wpAnyH_take (i := 15) (oi := { dst := some 38, op := Op.fieldAddr 33 (Operand.tmp 2) 5, type := 0, pos := "l07_plan.go:64", after := #[{ on := 10, ground := Ground.guard }], guard := some (10, false) }) (v := undef) rfl (by kernel_rfl) (by kernel_rfl) (by kernel_rfl) (fun _ _ _ h => h) (Or.inr ⟨by rfl, rfl⟩) (by assumption) ?_
          try simp only [Act.put, List.setIfInBounds_toArray, List.set_cons_zero, List.set_cons_succ]
          refine wpAnyH_take (i := 16) (oi := { dst := some 39, op := Op.indexAddr 24 (Operand.tmp 38) (Operand.tmp 37), type := 0, pos := "l07_plan.go:64", after := #[{ on := 15, ground := Ground.data }, { on := 14, ground := Ground.data }, { on := 10, ground := Ground.guard }], guard := some (10, false) }) (v := undef) rfl (by kernel_rfl) (by kernel_rfl) (by kernel_rfl) (fun _ _ _ h => h) (Or.inr ⟨by rfl, rfl⟩) (by assumption) ?_
          try simp only [Act.put, List.setIfInBounds_toArray, List.set_cons_zero, List.set_cons_succ]
          refine wpAnyH_take (i := 17) (oi := { dst := some 40, op := Op.load 3 (Operand.tmp 39), type := 3, pos := "l07_plan.go:64", after := #[{ on := 16, ground := Ground.data }, { on := 10, ground := Ground.guard }], guard := some (10, false) }) (v := undef) rfl (by kernel_rfl) (by kernel_rfl) (by kernel_rfl) (fun _ _ _ h => h) (Or.inr ⟨by rfl, rfl⟩) (by assumption) ?_
          try simp only [Act.put, List.setIfInBounds_toArray, List.set_cons_zero, List.set_cons_succ]
          refine wpAnyH_take (i := 18) (oi := { dst := some 41, op := Op.binOp BinOp.leq 3 (Operand.tmp 35) (Operand.tmp 40) 3, type := 4, pos := "l07_plan.go:64", after := #[{ on := 12, ground := Ground.data }, { on := 17, ground := Ground.data }, { on := 10, ground := Ground.guard }], guard := some (10, false) }) (v := undef) rfl (by kernel_rfl) (by kernel_rfl) (by kernel_rfl) (fun _ _ _ h => h) (Or.inr ⟨by rfl, rfl⟩) (by assumption) ?_
          try simp only [Act.put, List.setIfInBounds_toArray, List.set_cons_zero, List.set_cons_succ]
          refine wpAnyH_take (i := 19) (oi := { dst := some 42, op := Op.pick (Operand.tmp 33) (Operand.const (Value.bool true)) (Operand.tmp 41), type := 4, pos := "l07_plan.go:64", after := #[{ on := 10, ground := Ground.data }, { on := 18, ground := Ground.data }, { on := 7, ground := Ground.guard }], guard := some (7, true) }) (v := undef) rfl (by kernel_rfl) (by kernel_rfl) (by kernel_rfl) (fun _ _ _ h => h) (Or.inr ⟨by rfl, rfl⟩) (by assumption) ?_
          try simp only [Act.put, List.setIfInBounds_toArray, List.set_cons_zero, List.set_cons_succ]
          refine wpAnyH_take (i := 20) (oi := { dst := some 43, op := Op.pick (Operand.tmp 30) (Operand.tmp 42) (Operand.const (Value.bool false)), type := 4, pos := "l07_plan.go:64", after := #[{ on := 7, ground := Ground.data }, { on := 19, ground := Ground.data }], guard := none }) (v := ?vg20) rfl (by kernel_rfl) (by kernel_rfl) (by kernel_rfl) (fun _ _ _ h => h) (Or.inl ⟨by rfl, ?hyg20⟩) (by assumption) ?restg20
          case hyg20 => intro w hSw; (try dsimp only at hSw); (obtain ⟨⟨q0, q1, q2, q3, q4, q5, q6, q7, q8, q9⟩, p0, p1, p2, p3⟩ := hSw); (first | (go_simp; done) | (go_simp; with_reducible rfl) | (with_reducible rfl))
          try simp only [Act.put, List.setIfInBounds_toArray, List.set_cons_zero, List.set_cons_succ]
          refine wpAnyH_done (by kernel_rfl) ?_ _
          refine NoPanic.normal ?_
          clear hHeld CS QS hb4
          go_wp2_with fail
          go_roundw
          case rel => exact ⟨2, by omega, rfl, HA2, K4⟩
          case measure => simp [intOf]
        have dd : decide (ef + 100 ≤ now) = true := by simpa using hage
        have HWd := Lib.hid (show decide (IntKind.i64.wrap (ef + 100) ≤ now) = true from by rw [HW.out]; exact dd)
        have HAG : Hid (∀ b, decide (ef ≤ s.hi.c) = b → ageB s now 1 ⟨1, eb, ef, ek⟩ = b) := Lib.hid fun b hb => by
          rw [← hb]; unfold ageB upB; show (decide (ef + 100 ≤ now) && _) = _; rw [dd]; simp [GTri.at]
        clear hage dd
        refine wp_region_noPanic ?_
        refine wp_region_held_drew (S := (fun w' => (w'.cell? ⟨x0, 0, none⟩ = some (.int .i64 s.sq) ∧ w'.cell? ⟨x0, 1, none⟩ = some (.int .i64 s.fe) ∧ w'.cell? ⟨x0, 2, none⟩ = some (.slice (some ⟨b1, o1, none⟩) s.ents.length c) ∧ w'.cell? ⟨x0, 3, none⟩ = some (.slice A2 s.tmbs.length c2) ∧ w'.cell? ⟨x0, 4, none⟩ = some (.int .i64 s.lo.a) ∧ w'.cell? ⟨x0, 5, none⟩ = some (.int .i64 s.lo.b) ∧ w'.cell? ⟨x0, 6, none⟩ = some (.int .i64 s.lo.c) ∧ w'.cell? ⟨x0, 7, none⟩ = some (.int .i64 s.hi.a) ∧ w'.cell? ⟨x0, 8, none⟩ = some (.int .i64 s.hi.b) ∧ w'.cell? ⟨x0, 9, none⟩ = some (.int .i64 s.hi.c)) ∧ w'.cell? ⟨z, 0, none⟩ = some (.int .i64 1) ∧ w'.cell? ⟨z, 1, none⟩ = some (.int .i64 eb) ∧ w'.cell? ⟨z, 2, none⟩ = some (.int .i64 ef) ∧ w'.cell? ⟨z, 3, none⟩ = some (.string ek))) (by kernel_rfl) (⟨CS, QS⟩) (fun hHeld => ?_)
        refine wpAnyH_take (i := 0) (oi := { dst := some 23, op := Op.fieldAddr 44 (Operand.tmp 8) 2, type := 0, pos := "l07_plan.go:64", after := #[], guard := none }) (v := ?vh0) rfl (by kernel_rfl) (by kernel_rfl) (by kernel_rfl) (fun _ _ _ h => h) (Or.inl ⟨by rfl, ?hyh0⟩) (by assumption) ?resth0
        case hyh0 => intro w hSw; (try dsimp only at hSw); (obtain ⟨⟨q0, q1, q2, q3, q4, q5, q6, q7, q8, q9⟩, p0, p1, p2, p3⟩ := hSw); (first | (go_simp; done) | (go_simp; with_reducible rfl) | (with_reducible rfl))
        try simp only [Act.put, List.setIfInBounds_toArray, List.set_cons_zero, List.set_cons_succ]
        refine wpAnyH_take (i := 1) (oi := { dst := some 24, op := Op.load 3 (Operand.tmp 23), type := 3, pos := "l07_plan.go:64", after := #[{ on := 0, ground := Ground.data }], guard := none }) (v := ?vh1) rfl (by kernel_rfl) (by kernel_rfl) (by kernel_rfl) (fun _ _ _ h => h) (Or.inl ⟨by rfl, ?hyh1⟩) (by assumption) ?resth1
        case hyh1 => intro w hSw; (try dsimp only at hSw); (obtain ⟨⟨q0, q1, q2, q3, q4, q5, q6, q7, q8, q9⟩, p0, p1, p2, p3⟩ := hSw); (first | (go_simp; done) | (go_simp; with_reducible rfl) | (with_reducible rfl))
        try simp only [Act.put, List.setIfInBounds_toArray, List.set_cons_zero, List.set_cons_succ]
        refine wpAnyH_take (i := 2) (oi := { dst := some 25, op := Op.move (Operand.tmp 6), type := 3, pos := "l07_plan.go:64", after := #[], guard := none }) (v := ?vh2) rfl (by kernel_rfl) (by kernel_rfl) (by kernel_rfl) (fun _ _ _ h => h) (Or.inl ⟨by rfl, ?hyh2⟩) (by assumption) ?resth2
        case hyh2 => intro w hSw; (try dsimp only at hSw); (obtain ⟨⟨q0, q1, q2, q3, q4, q5, q6, q7, q8, q9⟩, p0, p1, p2, p3⟩ := hSw); (first | (go_simp; done) | (go_simp; with_reducible rfl) | (with_reducible rfl))
        try simp only [Act.put, List.setIfInBounds_toArray, List.set_cons_zero, List.set_cons_succ]
        refine wpAnyH_take (i := 5) (oi := { dst := some 28, op := Op.move (Operand.tmp 1), type := 3, pos := "l07_plan.go:64", after := #[], guard := none }) (v := ?vh5) rfl (by kernel_rfl) (by kernel_rfl) (by kernel_rfl) (fun _ _ _ h => h) (Or.inl ⟨by rfl, ?hyh5⟩) (by assumption) ?resth5
        case hyh5 => intro w hSw; (try dsimp only at hSw); (obtain ⟨⟨q0, q1, q2, q3, q4, q5, q6, q7, q8, q9⟩, p0, p1, p2, p3⟩ := hSw); (first | (go_simp; done) | (go_simp; with_reducible rfl) | (with_reducible rfl))
        try simp only [Act.put, List.setIfInBounds_toArray, List.set_cons_zero, List.set_cons_succ]
        refine wpAnyH_ready (rs := [3]) (by kernel_rfl) (by simp) ?_
        refine AllReadyH.cons (o := { dst := some 26, op := Op.call { callee := Callee.value (Operand.func 80), args := #[Operand.tmp 25], argTypes := #[3] }, type := 3, pos := "l07_plan.go:64", after := #[{ on := 2, ground := Ground.data }], guard := none }) rfl (fun K hK => ?_) AllReadyH.nil
        go_simp
        refine (L1.out _).mono ?_
        rintro r w4 ⟨rfl, hb4'⟩
        have hb4 : Below W3.heap.size W3 w4 := (Below.refl _ _).drew.trans hb4'
        clear hb4'
        have K4 := Lib.hid (K3.out.step hb4)
        have Q4 := Lib.hid (Q.out.below hb4 sz)
        go_wp2_with fail
        refine hK.out _ _ (⟨K4.out.1.ten, Q4.out 0 _ rfl, Q4.out 1 _ rfl, Q4.out 2 _ rfl, Q4.out 3 _ rfl⟩) (fun hHeld => ?_)
        clear hK K
        try simp only [Act.put, List.setIfInBounds_toArray, List.set_cons_zero, List.set_cons_succ]
        refine wpAnyH_take (i := 4) (oi := { dst := some 27, op := Op.binOp BinOp.add 3 (Operand.tmp 24) (Operand.tmp 26) 3, type := 3, pos := "l07_plan.go:64", after := #[{ on := 1, ground := Ground.data }, { on := 3, ground := Ground.data }], guard := none }) (v := ?vh4) rfl (by kernel_rfl) (by kernel_rfl) (by kernel_rfl) (fun _ _ _ h => h) (Or.inl ⟨by rfl, ?hyh4⟩) (by assumption) ?resth4
        case hyh4 => intro w hSw; (try dsimp only at hSw); (obtain ⟨⟨q0, q1, q2, q3, q4, q5, q6, q7, q8, q9⟩, p0, p1, p2, p3⟩ := hSw); (first | (go_simp; done) | (go_simp; with_reducible rfl) | (with_reducible rfl))
        try simp only [Act.put, List.setIfInBounds_toArray, List.set_cons_zero, List.set_cons_succ]
        refine wpAnyH_take (i := 6) (oi := { dst := some 29, op := Op.binOp BinOp.leq 3 (Operand.tmp 27) (Operand.tmp 28) 3, type := 4, pos := "l07_plan.go:64", after := #[{ on := 4, ground := Ground.data }, { on := 5, ground := Ground.data }], guard := none }) (v := ?vh6) rfl (by kernel_rfl) (by kernel_rfl) (by kernel_rfl) (fun _ _ _ h => h) (Or.inl ⟨by rfl, ?hyh6⟩) (by assumption) ?resth6
        case hyh6 => intro w hSw; (try dsimp only at hSw); (obtain ⟨⟨q0, q1, q2, q3, q4, q5, q6, q7, q8, q9⟩, p0, p1, p2, p3⟩ := hSw); (first | (go_simp; done) | (go_simp; with_reducible rfl) | (with_reducible rfl))
        try simp only [Act.put, List.setIfInBounds_toArray, List.set_cons_zero, List.set_cons_succ]
        rw [HWd.out]
        refine wpAnyH_take (i := 7) (oi := { dst := some 30, op := Op.move (Operand.tmp 29), type := 4, pos := "l07_plan.go:64", after := #[{ on := 6, ground := Ground.data }, { on := 3, ground := Ground.chain }], guard := none }) (v := ?vh7) rfl (by kernel_rfl) (by kernel_rfl) (by kernel_rfl) (fun _ _ _ h => h) (Or.inl ⟨by rfl, ?hyh7⟩) (by assumption) ?resth7
        case hyh7 => intro w hSw; (try dsimp only at hSw); (obtain ⟨⟨q0, q1, q2, q3, q4, q5, q6, q7, q8, q9⟩, p0, p1, p2, p3⟩ := hSw); (first | (go_simp; done) | (go_simp; with_reducible rfl) | (with_reducible rfl))
        try simp only [Act.put, List.setIfInBounds_toArray, List.set_cons_zero, List.set_cons_succ]
        refine wpAnyH_take (i := 8) (oi := { dst := some 31, op := Op.move (Operand.tmp 6), type := 3, pos := "l07_plan.go:64", after := #[{ on := 7, ground := Ground.guard }], guard := some (7, true) }) (v := ?vh8) rfl (by kernel_rfl) (by kernel_rfl) (by kernel_rfl) (fun _ _ _ h => h) (Or.inl ⟨by rfl, ?hyh8⟩) (by assumption) ?resth8
        case hyh8 => intro w hSw; (try dsimp only at hSw); (obtain ⟨⟨q0, q1, q2, q3, q4, q5, q6, q7, q8, q9⟩, p0, p1, p2, p3⟩ := hSw); (first | (go_simp; done) | (go_simp; with_reducible rfl) | (with_reducible rfl))
        try simp only [Act.put, List.setIfInBounds_toArray, List.set_cons_zero, List.set_cons_succ]
        refine wpAnyH_take (i := 9) (oi := { dst := some 32, op := Op.binOp BinOp.eql 3 (Operand.tmp 31) (Operand.const (Value.int IntKind.i64 2)) 3, type := 4, pos := "l07_plan.go:64", after := #[{ on := 8, ground := Ground.data }, { on := 7, ground := Ground.guard }], guard := some (7, true) }) (v := ?vh9) rfl (by kernel_rfl) (by kernel_rfl) (by kernel_rfl) (fun _ _ _ h => h) (Or.inl ⟨by rfl, ?hyh9⟩) (by assumption) ?resth9
        case hyh9 => intro w hSw; (try dsimp only at hSw); (obtain ⟨⟨q0, q1, q2, q3, q4, q5, q6, q7, q8, q9⟩, p0, p1, p2, p3⟩ := hSw); (first | (go_simp; done) | (go_simp; with_reducible rfl) | (with_reducible rfl))
        try simp only [Act.put, List.setIfInBounds_toArray, List.set_cons_zero, List.set_cons_succ]
        refine wpAnyH_take (i := 10) (oi := { dst := some 33, op := Op.move (Operand.tmp 32), type := 4, pos := "l07_plan.go:64", after := #[{ on := 9, ground := Ground.data }, { on := 7, ground := Ground.chain }, { on := 7, ground := Ground.guard }], guard := some (7, true) }) (v := ?vh10) rfl (by kernel_rfl) (by kernel_rfl) (by kernel_rfl) (fun _ _ _ h => h) (Or.inl ⟨by rfl, ?hyh10⟩) (by assumption) ?resth10
        case hyh10 => intro w hSw; (try dsimp only at hSw); (obtain ⟨⟨q0, q1, q2, q3, q4, q5, q6, q7, q8, q9⟩, p0, p1, p2, p3⟩ := hSw); (first | (go_simp; done) | (go_simp; with_reducible rfl) | (with_reducible rfl))
        try simp only [Act.put, List.setIfInBounds_toArray, List.set_cons_zero, List.set_cons_succ]
        refine wpAnyH_take (i := 11) (oi := { dst := some 34, op := Op.fieldAddr 44 (Operand.tmp 8) 2, type := 0, pos := "l07_plan.go:64", after := #[{ on := 10, ground := Ground.guard }], guard := some (10, false) }) (v := ?vh11) rfl (by kernel_rfl) (by kernel_rfl) (by kernel_rfl) (fun _ _ _ h => h) (Or.inl ⟨by rfl, ?hyh11⟩) (by assumption) ?resth11
        case hyh11 => intro w hSw; (try dsimp only at hSw); (obtain ⟨⟨q0, q1, q2, q3, q4, q5, q6, q7, q8, q9⟩, p0, p1, p2, p3⟩ := hSw); (first | (go_simp; done) | (go_simp; with_reducible rfl) | (with_reducible rfl))
        try simp only [Act.put, List.setIfInBounds_toArray, List.set_cons_zero, List.set_cons_succ]
        refine wpAnyH_take (i := 12) (oi := { dst := some 35, op := Op.load 3 (Operand.tmp 34), type := 3, pos := "l07_plan.go:64", after := #[{ on := 11, ground := Ground.data }, { on := 10, ground := Ground.guard }], guard := some (10, false) }) (v := ?vh12) rfl (by kernel_rfl) (by kernel_rfl) (by kernel_rfl) (fun _ _ _ h => h) (Or.inl ⟨by rfl, ?hyh12⟩) (by assumption) ?resth12
        case hyh12 => intro w hSw; (try dsimp only at hSw); (obtain ⟨⟨q0, q1, q2, q3, q4, q5, q6, q7, q8, q9⟩, p0, p1, p2, p3⟩ := hSw); (first | (go_simp; done) | (go_simp; with_reducible rfl) | (with_reducible rfl))
        try simp only [Act.put, List.setIfInBounds_toArray, List.set_cons_zero, List.set_cons_succ]
        refine wpAnyH_take (i := 13) (oi := { dst := some 36, op := Op.move (Operand.tmp 6), type := 3, pos := "l07_plan.go:64", after := #[{ on := 10, ground := Ground.guard }], guard := some (10, false) }) (v := ?vh13) rfl (by kernel_rfl) (by kernel_rfl) (by kernel_rfl) (fun _ _ _ h => h) (Or.inl ⟨by rfl, ?hyh13⟩) (by assumption) ?resth13
        case hyh13 => intro w hSw; (try dsimp only at hSw); (obtain ⟨⟨q0, q1, q2, q3, q4, q5, q6, q7, q8, q9⟩, p0, p1, p2, p3⟩ := hSw); (first | (go_simp; done) | (go_simp; with_reducible rfl) | (with_reducible rfl))
        try simp only [Act.put, List.setIfInBounds_toArray, List.set_cons_zero, List.set_cons_succ]
        refine wpAnyH_take (i := 14) (oi := { dst := some 37, op := Op.binOp BinOp.add 3 (Operand.tmp 36) (Operand.const (Value.int IntKind.i64 1)) 3, type := 3, pos := "l07_plan.go:64", after := #[{ on := 13, ground := Ground.data }, { on := 10, ground := Ground.guard }], guard := some (10, false) }) (v := ?vh14) rfl (by kernel_rfl) (by kernel_rfl) (by kernel_rfl) (fun _ _ _ h => h) (Or.inl ⟨by rfl, ?hyh14⟩) (by assumption) ?resth14
        case hyh14 => intro w hSw; (try dsimp only at hSw); (obtain ⟨⟨q0, q1, q2, q3, q4, q5, q6, q7, q8, q9⟩, p0, p1, p2, p3⟩ := hSw); (first | (go_simp; done) | (go_simp; with_reducible rfl) | (with_reducible rfl))
        try simp only [Act.put, List.setIfInBounds_toArray, List.set_cons_zero, List.set_cons_succ]
        rw [show IntKind.i64.wrap 2 = 2 from by rw [IntKind.wrap_i64]; rfl]
        refine wpAnyH_take (i := 15) (oi := { dst := some 38, op := Op.fieldAddr 33 (Operand.tmp 2) 5, type := 0, pos := "l07_plan.go:64", after := #[{ on := 10, ground := Ground.guard }], guard := some (10, false) }) (v := ?vh15) rfl (by kernel_rfl) (by kernel_rfl) (by kernel_rfl) (fun _ _ _ h => h) (Or.inl ⟨by rfl, ?hyh15⟩) (by assumption) ?resth15
        case hyh15 => intro w hSw; (try dsimp only at hSw); (obtain ⟨⟨q0, q1, q2, q3, q4, q5, q6, q7, q8, q9⟩, p0, p1, p2, p3⟩ := hSw); (first | (go_simp; done) | (go_simp; with_reducible rfl) | (with_reducible rfl))
        try simp only [Act.put, List.setIfInBounds_toArray, List.set_cons_zero, List.set_cons_succ]
        refine wpAnyH_take (i := 16) (oi := { dst := some 39, op := Op.indexAddr 24 (Operand.tmp 38) (Operand.tmp 37), type := 0, pos := "l07_plan.go:64", after := #[{ on := 15, ground := Ground.data }, { on := 14, ground := Ground.data }, { on := 10, ground := Ground.guard }], guard := some (10, false) }) (v := ?vh16) rfl (by kernel_rfl) (by kernel_rfl) (by kernel_rfl) (fun _ _ _ h => h) (Or.inl ⟨by rfl, ?hyh16⟩) (by assumption) ?resth16
        case hyh16 => intro w hSw; (try dsimp only at hSw); (obtain ⟨⟨q0, q1, q2, q3, q4, q5, q6, q7, q8, q9⟩, p0, p1, p2, p3⟩ := hSw); (first | (go_simp; done) | (go_simp; with_reducible rfl) | (with_reducible rfl))
        try simp only [Act.put, List.setIfInBounds_toArray, List.set_cons_zero, List.set_cons_succ]
        refine wpAnyH_take (i := 17) (oi := { dst := some 40, op := Op.load 3 (Operand.tmp 39), type := 3, pos := "l07_plan.go:64", after := #[{ on := 16, ground := Ground.data }, { on := 10, ground := Ground.guard }], guard := some (10, false) }) (v := ?vh17) rfl (by kernel_rfl) (by kernel_rfl) (by kernel_rfl) (fun _ _ _ h => h) (Or.inl ⟨by rfl, ?hyh17⟩) (by assumption) ?resth17
        case hyh17 => intro w hSw; (try dsimp only at hSw); (obtain ⟨⟨q0, q1, q2, q3, q4, q5, q6, q7, q8, q9⟩, p0, p1, p2, p3⟩ := hSw); (first | (go_simp; done) | (go_simp; with_reducible rfl) | (with_reducible rfl))
        try simp only [Act.put, List.setIfInBounds_toArray, List.set_cons_zero, List.set_cons_succ]
        refine wpAnyH_take (i := 18) (oi := { dst := some 41, op := Op.binOp BinOp.leq 3 (Operand.tmp 35) (Operand.tmp 40) 3, type := 4, pos := "l07_plan.go:64", after := #[{ on := 12, ground := Ground.data }, { on := 17, ground := Ground.data }, { on := 10, ground := Ground.guard }], guard := some (10, false) }) (v := ?vh18) rfl (by kernel_rfl) (by kernel_rfl) (by kernel_rfl) (fun _ _ _ h => h) (Or.inl ⟨by rfl, ?hyh18⟩) (by assumption) ?resth18
        case hyh18 => intro w hSw; (try dsimp only at hSw); (obtain ⟨⟨q0, q1, q2, q3, q4, q5, q6, q7, q8, q9⟩, p0, p1, p2, p3⟩ := hSw); (first | (go_simp; done) | (go_simp; with_reducible rfl) | (with_reducible rfl))
        try simp only [Act.put, List.setIfInBounds_toArray, List.set_cons_zero, List.set_cons_succ]
        refine wpAnyH_take (i := 19) (oi := { dst := some 42, op := Op.pick (Operand.tmp 33) (Operand.const (Value.bool true)) (Operand.tmp 41), type := 4, pos := "l07_plan.go:64", after := #[{ on := 10, ground := Ground.data }, { on := 18, ground := Ground.data }, { on := 7, ground := Ground.guard }], guard := some (7, true) }) (v := ?vh19) rfl (by kernel_rfl) (by kernel_rfl) (by kernel_rfl) (fun _ _ _ h => h) (Or.inl ⟨by rfl, ?hyh19⟩) (by assumption) ?resth19
        case hyh19 => intro w hSw; (try dsimp only at hSw); (obtain ⟨⟨q0, q1, q2, q3, q4, q5, q6, q7, q8, q9⟩, p0, p1, p2, p3⟩ := hSw); (first | (go_simp; done) | (go_simp; with_reducible rfl) | (with_reducible rfl))
        try simp only [Act.put, List.setIfInBounds_toArray, List.set_cons_zero, List.set_cons_succ]
        refine wpAnyH_take (i := 20) (oi := { dst := some 43, op := Op.pick (Operand.tmp 30) (Operand.tmp 42) (Operand.const (Value.bool false)), type := 4, pos := "l07_plan.go:64", after := #[{ on := 7, ground := Ground.data }, { on := 19, ground := Ground.data }], guard := none }) (v := ?vh20) rfl (by kernel_rfl) (by kernel_rfl) (by kernel_rfl) (fun _ _ _ h => h) (Or.inl ⟨by rfl, ?hyh20⟩) (by assumption) ?resth20
        case hyh20 => intro w hSw; (try dsimp only at hSw); (obtain ⟨⟨q0, q1, q2, q3, q4, q5, q6, q7, q8, q9⟩, p0, p1, p2, p3⟩ := hSw); (first | (go_simp; done) | (go_simp; with_reducible rfl) | (with_reducible rfl))
        try simp only [Act.put, List.setIfInBounds_toArray, List.set_cons_zero, List.set_cons_succ]
        refine wpAnyH_done (by kernel_rfl) ?_ _
        refine NoPanic.normal ?_
        clear hHeld CS QS hb4
        cases hup : decide (ef ≤ s.hi.c)
        · have HA2 := Lib.hid (HA.out (HAG.out _ hup))
          clear HA HV HAG
          go_wp2_with fail
          go_roundw
          case rel => exact ⟨2, by omega, rfl, HA2, K4⟩
          case measure => simp [intOf]
        · have hv := HV.out (HAG.out _ hup)
          have HVV := Lib.hid hv
          clear HA HV HAG hv
          obtain ⟨q0, q1, q2, q3⟩ : w4.cell? ⟨z, 0, none⟩ = some (.int .i64 1) ∧ w4.cell? ⟨z, 1, none⟩ = some (.int .i64 eb) ∧ w4.cell? ⟨z, 2, none⟩ = some (.int .i64 ef) ∧ w4.cell? ⟨z, 3, none⟩ = some (.string ek) := ⟨Q4.out 0 _ rfl, Q4.out 1 _ rfl, Q4.out 2 _ rfl, Q4.out 3 _ rfl⟩
          obtain ⟨z0, z1, z2, z3, f0⟩ := K4.out.zero
          go_wp2
          refine bodyPost_ret (v := .tuple #[.agg #[.int .i64 1, .int .i64 eb, .int .i64 ef, .string ek], .bool true]) (by simp [results, Tryd.results51, go_sem, *]) rfl (FIN.out _ _ HVV.out (K4.out.fin _ _ _ _))
    · obtain ⟨c0, c1, c2', c3, c4, c5, c6, c7, c8, c9⟩ := K.out.1.ten
      go_wp2_with fail
      refine (l06First_any A c A2 c2 s 2 x0 wr (HS.out _ K.out.2.2.2.2) (by have := K.out.2.2.2.1; omega) hl).mono ?_
      rintro r w2 ⟨n, hn, rfl, hb2⟩
      have K2 := Lib.hid (K.out.step hb2)
      clear K hb2 c0 c1 c2' c3 c4 c5 c6 c7 c8 c9
      rcases hn with ⟨hE, rfl⟩ | ⟨m, hm, rfl, hE, hNT⟩
      · have HA : Hid (∀ j, j < 3 → expAt s now j = none) := Lib.hid fun j hj => by
          by_cases e : j = 2
          · subst e; unfold expAt; simp [hE]
          · exact HN.out j (by omega)
        clear hE HN
        go_wp2_with fail
        go_roundw
        case rel => exact ⟨3, by omega, rfl, HA, K2⟩
        case measure => simp [intOf]
      · have hfi := HFI.out _ _ hE
        obtain ⟨b1, o1, rfl, hb1, p0, p1, p2, p3⟩ := EntsAt.one (HS.out _ K2.out.2.2.2.2).1 hm
        have i1 : (0 : Int) ≤ (m : Int) := by omega
        have i2 : (m : Int) < (s.ents.length : Int) := by omega
        have nn : decide ((m : Int) < 0) = false := by simp
        have HNT := Lib.hid hNT; clear hNT
        generalize s.ents[m] = e at *
        obtain ⟨et, eb, ef, ek⟩ := e
        obtain ⟨het, hf0, hf1⟩ : et = 2 ∧ 0 ≤ ef ∧ ef ≤ 100000 := hfi
        subst het
        have HA : Hid (ageB s now 2 ⟨2, eb, ef, ek⟩ = false → ∀ j, j < 3 → expAt s now j = none) := Lib.hid fun ha j hj => by
          by_cases e : j = 2
          · subst e; unfold expAt; simp [hE, ha]
          · exact HN.out j (by omega)
        have HV : Hid (ageB s now 2 ⟨2, eb, ef, ek⟩ = true → expV s now = some ⟨2, eb, ef, ek⟩) := Lib.hid fun ha => expV_at (k := 2) (by omega) HN.out (by unfold expAt; simp [hE, ha])
        have hw : IntKind.i64.wrap (ef + 400) = ef + 400 := by rw [IntKind.wrap_i64]; omega
        have HW := Lib.hid hw; clear hw
        have HE := Lib.hid hE; clear hE HN hf0 hf1
        obtain ⟨c0, c1, c2', c3, c4, c5, c6, c7, c8, c9⟩ := K2.out.1.ten
        clear c0 c1 c3 c4 c5 c6 c7 c8 c9
        go_wp2_with fail
        have K3 : Hid (ExpKept w x0 (some ⟨b1, o1, none⟩) c A2 c2 s (w2.alloc (.cells #[.int .i64 2, .int .i64 eb, .int .i64 ef, .string ek] 44))) := Lib.hid (K2.out.step (bal (Below.refl _ _) _))
        have sz : w2.heap.size < (w2.alloc (.cells #[.int .i64 2, .int .i64 eb, .int .i64 ef, .string ek] 44)).heap.size := by simp
        have q := Cells.new w2 [.int .i64 2, .int .i64 eb, .int .i64 ef, .string ek] 44
        clear K2 p0 p1 p2 p3 c2'
        generalize w2.alloc (.cells #[.int .i64 2, .int .i64 eb, .int .i64 ef, .string ek] 44) = W3 at *
        generalize w2.heap.size = z at *
        have Q := Lib.hid q; clear q
        have CS := K3.out.1.ten
        have QS : W3.cell? ⟨z, 0, none⟩ = some (.int .i64 2) ∧ W3.cell? ⟨z, 1, none⟩ = some (.int .i64 eb) ∧ W3.cell? ⟨z, 2, none⟩ = some (.int .i64 ef) ∧ W3.cell? ⟨z, 3, none⟩ = some (.string ek) := ⟨Q.out 0 _ rfl, Q.out 1 _ rfl, Q.out 2 _ rfl, Q.out 3 _ rfl⟩
        by_cases hage : ef + 400 ≤ now
        rotate_left
        · have dd : decide (ef + 400 ≤ now) = false := by simpa using hage
          have HWd := Lib.hid (show decide (IntKind.i64.wrap (ef + 400) ≤ now) = false from by rw [HW.out]; exact dd)
          have HA2 := Lib.hid (HA.out (by unfold ageB; show (decide (ef + 400 ≤ now) && _) = false; rw [dd]; rfl))
          clear hage HA HV dd
          refine wp_region_noPanic ?_
          refine wp_region_held_drew (S := (fun w' => (w'.cell? ⟨x0, 0, none⟩ = some (.int .i64 s.sq) ∧ w'.cell? ⟨x0, 1, none⟩ = some (.int .i64 s.fe) ∧ w'.cell? ⟨x0, 2, none⟩ = some (.slice (some ⟨b1, o1, none⟩) s.ents.length c) ∧ w'.cell? ⟨x0, 3, none⟩ = some (.slice A2 s.tmbs.length c2) ∧ w'.cell? ⟨x0, 4, none⟩ = some (.int .i64 s.lo.a) ∧ w'.cell? ⟨x0, 5, none⟩ = some (.int .i64 s.lo.b) ∧ w'.cell? ⟨x0, 6, none⟩ = some (.int .i64 s.lo.c) ∧ w'.cell? ⟨x0, 7, none⟩ = some (.int .i64 s.hi.a) ∧ w'.cell? ⟨x0, 8, none⟩ = some (.int .i64 s.hi.b) ∧ w'.cell? ⟨x0, 9, none⟩ = some (.int .i64 s.hi.c)) ∧ w'.cell? ⟨z, 0, none⟩ = some (.int .i64 2) ∧ w'.cell? ⟨z, 1, none⟩ = some (.int .i64 eb) ∧ w'.cell? ⟨z, 2, none⟩ = some (.int .i64 ef) ∧ w'.cell? ⟨z, 3, none⟩ = some (.string ek))) (by kernel_rfl) (⟨CS, QS⟩) (fun hHeld => ?_)
          refine wpAnyH_take (i := 0) (oi := { dst := some 23, op := Op.fieldAddr 44 (Operand.tmp 8) 2, type := 0, pos := "l07_plan.go:64", after := #[], guard := none }) (v := ?vi0) rfl (by kernel_rfl) (by kernel_rfl) (by kernel_rfl) (fun _ _ _ h => h) (Or.inl ⟨by rfl, ?hyi0⟩) (by assumption) ?resti0
          case hyi0 => intro w hSw; (try dsimp only at hSw); (obtain ⟨⟨q0, q1, q2, q3, q4, q5, q6, q7, q8, q9⟩, p0, p1, p2, p3⟩ := hSw); (first | (go_simp; done) | (go_simp; with_reducible rfl) | (with_reducible rfl))
          try simp only [Act.put, List.setIfInBounds_toArray, List.set_cons_zero, List.set_cons_succ]
          refine wpAnyH_take (i := 1) (oi := { dst := some 24, op := Op.load 3 (Operand.tmp 23), type := 3, pos := "l07_plan.go:64", after := #[{ on := 0, ground := Ground.data }], guard := none }) (v := ?vi1) rfl (by kernel_rfl) (by kernel_rfl) (by kernel_rfl) (fun _ _ _ h => h) (Or.inl ⟨by rfl, ?hyi1⟩) (by assumption) ?resti1
          case hyi1 => intro w hSw; (try dsimp only at hSw); (obtain ⟨⟨q0, q1, q2, q3, q4, q5, q6, q7, q8, q9⟩, p0, p1, p2, p3⟩ := hSw); (first | (go_simp; done) | (go_simp; with_reducible rfl) | (with_reducible rfl))
          try simp only [Act.put, List.setIfInBounds_toArray, List.set_cons_zero, List.set_cons_succ]
          refine wpAnyH_take (i := 2) (oi := { dst := some 25, op := Op.move (Operand.tmp 6), type := 3, pos := "l07_plan.go:64", after := #[], guard := none }) (v := ?vi2) rfl (by kernel_rfl) (by kernel_rfl) (by kernel_rfl) (fun _ _ _ h => h) (Or.inl ⟨by rfl, ?hyi2⟩) (by assumption) ?resti2
          case hyi2 => intro w hSw; (try dsimp only at hSw); (obtain ⟨⟨q0, q1, q2, q3, q4, q5, q6, q7, q8, q9⟩, p0, p1, p2, p3⟩ := hSw); (first | (go_simp; done) | (go_simp; with_reducible rfl) | (with_reducible rfl))
          try simp only [Act.put, List.setIfInBounds_toArray, List.set_cons_zero, List.set_cons_succ]
          refine wpAnyH_take (i := 5) (oi := { dst := some 28, op := Op.move (Operand.tmp 1), type := 3, pos := "l07_plan.go:64", after := #[], guard := none }) (v := ?vi5) rfl (by kernel_rfl) (by kernel_rfl) (by kernel_rfl) (fun _ _ _ h => h) (Or.inl ⟨by rfl, ?hyi5⟩) (by assumption) ?resti5
          case hyi5 => intro w hSw; (try dsimp only at hSw); (obtain ⟨⟨q0, q1, q2, q3, q4, q5, q6, q7, q8, q9⟩, p0, p1, p2, p3⟩ := hSw); (first | (go_simp; done) | (go_simp; with_reducible rfl) | (with_reducible rfl))
          try simp only [Act.put, List.setIfInBounds_toArray, List.set_cons_zero, List.set_cons_succ]
          refine wpAnyH_ready (rs := [3]) (by kernel_rfl) (by simp) ?_
          refine AllReadyH.cons (o := { dst := some 26, op := Op.call { callee := Callee.value (Operand.func 80), args := #[Operand.tmp 25], argTypes := #[3] }, type := 3, pos := "l07_plan.go:64", after := #[{ on := 2, ground := Ground.data }], guard := none }) rfl (fun K hK => ?_) AllReadyH.nil
          go_simp
          refine (L2.out _).mono ?_
          rintro r w4 ⟨rfl, hb4'⟩
          have hb4 : Below W3.heap.size W3 w4 := (Below.refl _ _).drew.trans hb4'
          clear hb4'
          have K4 := Lib.hid (K3.out.step hb4)
          have Q4 := Lib.hid (Q.out.below hb4 sz)
          go_wp2_with fail
          refine hK.out _ _ (⟨K4.out.1.ten, Q4.out 0 _ rfl, Q4.out 1 _ rfl, Q4.out 2 _ rfl, Q4.out 3 _ rfl⟩) (fun hHeld => ?_)
          clear hK K
          try simp only [Act.put, List.setIfInBounds_toArray, List.set_cons_zero, List.set_cons_succ]
          refine wpAnyH_take (i := 4) (oi := { dst := some 27, op := Op.binOp BinOp.add 3 (Operand.tmp 24) (Operand.tmp 26) 3, type := 3, pos := "l07_plan.go:64", after := #[{ on := 1, ground := Ground.data }, { on := 3, ground := Ground.data }], guard := none }) (v := ?vi4) rfl (by kernel_rfl) (by kernel_rfl) (by kernel_rfl) (fun _ _ _ h => h) (Or.inl ⟨by rfl, ?hyi4⟩) (by assumption) ?resti4
          case hyi4 => intro w hSw; (try dsimp only at hSw); (obtain ⟨⟨q0, q1, q2, q3, q4, q5, q6, q7, q8, q9⟩, p0, p1, p2, p3⟩ := hSw); (first | (go_simp; done) | (go_simp; with_reducible rfl) | (with_reducible rfl))
          try simp only [Act.put, List.setIfInBounds_toArray, List.set_cons_zero, List.set_cons_succ]
          refine wpAnyH_take (i := 6) (oi := { dst := some 29, op := Op.binOp BinOp.leq 3 (Operand.tmp 27) (Operand.tmp 28) 3, type := 4, pos := "l07_plan.go:64", after := #[{ on := 4, ground := Ground.data }, { on := 5, ground := Ground.data }], guard := none }) (v := ?vi6) rfl (by kernel_rfl) (by kernel_rfl) (by kernel_rfl) (fun _ _ _ h => h) (Or.inl ⟨by rfl, ?hyi6⟩) (by assumption) ?resti6
          case hyi6 => intro w hSw; (try dsimp only at hSw); (obtain ⟨⟨q0, q1, q2, q3, q4, q5, q6, q7, q8, q9⟩, p0, p1, p2, p3⟩ := hSw); (first | (go_simp; done) | (go_simp; with_reducible rfl) | (with_reducible rfl))
          try simp only [Act.put, List.setIfInBounds_toArray, List.set_cons_zero, List.set_cons_succ]
          rw [HWd.out]
          refine wpAnyH_take (i := 7) (oi := { dst := some 30, op := Op.move (Operand.tmp 29), type := 4, pos := "l07_plan.go:64", after := #[{ on := 6, ground := Ground.data }, { on := 3, ground := Ground.chain }], guard := none }) (v := ?vi7) rfl (by kernel_rfl) (by kernel_rfl) (by kernel_rfl) (fun _ _ _ h => h) (Or.inl ⟨by rfl, ?hyi7⟩) (by assumption) ?resti7
          case hyi7 => intro w hSw; (try dsimp only at hSw); (obtain ⟨⟨q0, q1, q2, q3, q4, q5, q6, q7, q8, q9⟩, p0, p1, p2, p3⟩ := hSw); (first | (go_simp; done) | (go_simp; with_reducible rfl) | (with_reducible rfl))
          try simp only [Act.put, List.setIfInBounds_toArray, List.set_cons_zero, List.set_cons_succ]
          refine wpAnyH_take (i := 8) (oi := { dst := some 31, op := Op.move (Operand.tmp 6), type := 3, pos := "l07_plan.go:64", after := #[{ on := 7, ground := Ground.guard }], guard := some (7, true) }) (v := undef) rfl (by kernel_rfl) (by kernel_rfl) (by kernel_rfl) (fun _ _ _ h => h) (Or.inr ⟨by rfl, rfl⟩) (by assumption) ?_
          try simp only [Act.put, List.setIfInBounds_toArray, List.set_cons_zero, List.set_cons_succ]
          refine wpAnyH_take (i := 9) (oi := { dst := some 32, op := Op.binOp BinOp.eql 3 (Operand.tmp 31) (Operand.const (Value.int IntKind.i64 2)) 3, type := 4, pos := "l07_plan.go:64", after := #[{ on := 8, ground := Ground.data }, { on := 7, ground := Ground.guard }], guard := some (7, true) }) (v := undef) rfl (by kernel_rfl) (by kernel_rfl) (by kernel_rfl) (fun _ _ _ h => h) (Or.inr ⟨by rfl, rfl⟩) (by assumption) ?_
          try simp only [Act.put, List.setIfInBounds_toArray, List.set_cons_zero, List.set_cons_succ]
          refine wpAnyH_take (i := 10) (oi := { dst := some 33, op := Op.move (Operand.tmp 32), type := 4, pos := "l07_plan.go:64", after := #[{ on := 9, ground := Ground.data }, { on := 7, ground := Ground.chain }, { on := 7, ground := Ground.guard }], guard := some (7, true) }) (v := undef) rfl (by kernel_rfl) (by kernel_rfl) (by kernel_rfl) (fun _ _ _ h => h) (Or.inr ⟨by rfl, rfl⟩) (by assumption) ?_
          try simp only [Act.put, List.setIfInBounds_toArray, List.set_cons_zero, List.set_cons_succ]
          refine wpAnyH_take (i := 11) (oi := { dst := some 34, op := Op.fieldAddr 44 (Operand.tmp 8) 2, type := 0, pos := "l07_plan.go:64", after := #[{ on := 10, ground := Ground.guard }], guard := some (10, false) }) (v := undef) rfl (by kernel_rfl) (by kernel_rfl) (by kernel_rfl) (fun _ _ _ h => h) (Or.inr ⟨by rfl, rfl⟩) (by assumption) ?_
          try simp only [Act.put, List.setIfInBounds_toArray, List.set_cons_zero, List.set_cons_succ]
          refine wpAnyH_take (i := 12) (oi := { dst := some 35, op := Op.load 3 (Operand.tmp 34), type := 3, pos := "l07_plan.go:64", after := #[{ on := 11, ground := Ground.data }, { on := 10, ground := Ground.guard }], guard := some (10, false) }) (v := undef) rfl (by kernel_rfl) (by kernel_rfl) (by kernel_rfl) (fun _ _ _ h => h) (Or.inr ⟨by rfl, rfl⟩) (by assumption) ?_
          try simp only [Act.put, List.setIfInBounds_toArray, List.set_cons_zero, List.set_cons_succ]
          refine wpAnyH_take (i := 13) (oi := { dst := some 36, op := Op.move (Operand.tmp 6), type := 3, pos := "l07_plan.go:64", after := #[{ on := 10, ground := Ground.guard }], guard := some (10, false) }) (v := undef) rfl (by kernel_rfl) (by kernel_rfl) (by kernel_rfl) (fun _ _ _ h => h) (Or.inr ⟨by rfl, rfl⟩) (by assumption) ?_
          try simp only [Act.put, List.setIfInBounds_toArray, List.set_cons_zero, List.set_cons_succ]
          refine wpAnyH_take (i := 14) (oi := { dst := some 37, op := Op.binOp BinOp.add 3 (Operand.tmp 36) (Operand.const (Value.int IntKind.i64 1)) 3, type := 3, pos := "l07_plan.go:64", after := #[{ on := 13, ground := Ground.data }, { on := 10, ground := Ground.guard }], guard := some (10, false) }) (v := undef) rfl (by kernel_rfl) (by kernel_rfl) (by kernel_rfl) (fun _ _ _ h => h) (Or.inr ⟨by rfl, rfl⟩) (by assumption) ?_
          try simp only [Act.put, List.setIfInBounds_toArray, List.set_cons_zero, List.set_cons_succ]
          refine wpAnyH_take (i := 15) (oi := { dst := some 38, op := Op.fieldAddr 33 (Operand.tmp 2) 5, type := 0, pos := "l07_plan.go:64", after := #[{ on := 10, ground := Ground.guard }], guard := some (10, false) }) (v := undef) rfl (by kernel_rfl) (by kernel_rfl) (by kernel_rfl) (fun _ _ _ h => h) (Or.inr ⟨by rfl, rfl⟩) (by assumption) ?_
          try simp only [Act.put, List.setIfInBounds_toArray, List.set_cons_zero, List.set_cons_succ]
          refine wpAnyH_take (i := 16) (oi := { dst := some 39, op := Op.indexAddr 24 (Operand.tmp 38) (Operand.tmp 37), type := 0, pos := "l07_plan.go:64", after := #[{ on := 15, ground := Ground.data }, { on := 14, ground := Ground.data }, { on := 10, ground := Ground.guard }], guard := some (10, false) }) (v := undef) rfl (by kernel_rfl) (by kernel_rfl) (by kernel_rfl) (fun _ _ _ h => h) (Or.inr ⟨by rfl, rfl⟩) (by assumption) ?_
          try simp only [Act.put, List.setIfInBounds_toArray, List.set_cons_zero, List.set_cons_succ]
          refine wpAnyH_take (i := 17) (oi := { dst := some 40, op := Op.load 3 (Operand.tmp 39), type := 3, pos := "l07_plan.go:64", after := #[{ on := 16, ground := Ground.data }, { on := 10, ground := Ground.guard }], guard := some (10, false) }) (v := undef) rfl (by kernel_rfl) (by kernel_rfl) (by kernel_rfl) (fun _ _ _ h => h) (Or.inr ⟨by rfl, rfl⟩) (by assumption) ?_
          try simp only [Act.put, List.setIfInBounds_toArray, List.set_cons_zero, List.set_cons_succ]
          refine wpAnyH_take (i := 18) (oi := { dst := some 41, op := Op.binOp BinOp.leq 3 (Operand.tmp 35) (Operand.tmp 40) 3, type := 4, pos := "l07_plan.go:64", after := #[{ on := 12, ground := Ground.data }, { on := 17, ground := Ground.data }, { on := 10, ground := Ground.guard }], guard := some (10, false) }) (v := undef) rfl (by kernel_rfl) (by kernel_rfl) (by kernel_rfl) (fun _ _ _ h => h) (Or.inr ⟨by rfl, rfl⟩) (by assumption) ?_
          try simp only [Act.put, List.setIfInBounds_toArray, List.set_cons_zero, List.set_cons_succ]
          refine wpAnyH_take (i := 19) (oi := { dst := some 42, op := Op.pick (Operand.tmp 33) (Operand.const (Value.bool true)) (Operand.tmp 41), type := 4, pos := "l07_plan.go:64", after := #[{ on := 10, ground := Ground.data }, { on := 18, ground := Ground.data }, { on := 7, ground := Ground.guard }], guard := some (7, true) }) (v := undef) rfl (by kernel_rfl) (by kernel_rfl) (by kernel_rfl) (fun _ _ _ h => h) (Or.inr ⟨by rfl, rfl⟩) (by assumption) ?_
          try simp only [Act.put, List.setIfInBounds_toArray, List.set_cons_zero, List.set_cons_succ]
          refine wpAnyH_take (i := 20) (oi := { dst := some 43, op := Op.pick (Operand.tmp 30) (Operand.tmp 42) (Operand.const (Value.bool false)), type := 4, pos := "l07_plan.go:64", after := #[{ on := 7, ground := Ground.data }, { on := 19, ground := Ground.data }], guard := none }) (v := ?vi20) rfl (by kernel_rfl) (by kernel_rfl) (by kernel_rfl) (fun _ _ _ h => h) (Or.inl ⟨by rfl, ?hyi20⟩) (by assumption) ?resti20
          case hyi20 => intro w hSw; (try dsimp only at hSw); (obtain ⟨⟨q0, q1, q2, q3, q4, q5, q6, q7, q8, q9⟩, p0, p1, p2, p3⟩ := hSw); (first | (go_simp; done) | (go_simp; with_reducible rfl) | (with_reducible rfl))
          try simp only [Act.put, List.setIfInBounds_toArray, List.set_cons_zero, List.set_cons_succ]
          refine wpAnyH_done (by kernel_rfl) ?_ _
          refine NoPanic.normal ?_
          clear hHeld CS QS hb4
          go_wp2_with fail
          go_roundw
          case rel => exact ⟨3, by omega, rfl, HA2, K4⟩
          case measure => simp [intOf]
        have dd : decide (ef + 400 ≤ now) = true := by simpa using hage
        have HWd := Lib.hid (show decide (IntKind.i64.wrap (ef + 400) ≤ now) = true from by rw [HW.out]; exact dd)
        have HAG : Hid (∀ b, true = b → ageB s now 2 ⟨2, eb, ef, ek⟩ = b) := Lib.hid fun b hb => by
          rw [← hb]; unfold ageB upB; show (decide (ef + 400 ≤ now) && _) = _; rw [dd]; simp [GTri.at]
        clear hage dd
        refine wp_region_noPanic ?_
        refine wp_region_held_drew (S := (fun w' => (w'.cell? ⟨x0, 0, none⟩ = some (.int .i64 s.sq) ∧ w'.cell? ⟨x0, 1, none⟩ = some (.int .i64 s.fe) ∧ w'.cell? ⟨x0, 2, none⟩ = some (.slice (some ⟨b1, o1, none⟩) s.ents.length c) ∧ w'.cell? ⟨x0, 3, none⟩ = some (.slice A2 s.tmbs.length c2) ∧ w'.cell? ⟨x0, 4, none⟩ = some (.int .i64 s.lo.a) ∧ w'.cell? ⟨x0, 5, none⟩ = some (.int .i64 s.lo.b) ∧ w'.cell? ⟨x0, 6, none⟩ = some (.int .i64 s.lo.c) ∧ w'.cell? ⟨x0, 7, none⟩ = some (.int .i64 s.hi.a) ∧ w'.cell? ⟨x0, 8, none⟩ = some (.int .i64 s.hi.b) ∧ w'.cell? ⟨x0, 9, none⟩ = some (.int .i64 s.hi.c)) ∧ w'.cell? ⟨z, 0, none⟩ = some (.int .i64 2) ∧ w'.cell? ⟨z, 1, none⟩ = some (.int .i64 eb) ∧ w'.cell? ⟨z, 2, none⟩ = some (.int .i64 ef) ∧ w'.cell? ⟨z, 3, none⟩ = some (.string ek))) (by kernel_rfl) (⟨CS, QS⟩) (fun hHeld => ?_)
        refine wpAnyH_take (i := 0) (oi := { dst := some 23, op := Op.fieldAddr 44 (Operand.tmp 8) 2, type := 0, pos := "l07_plan.go:64", after := #[], guard := none }) (v := ?vj0) rfl (by kernel_rfl) (by kernel_rfl) (by kernel_rfl) (fun _ _ _ h => h) (Or.inl ⟨by rfl, ?hyj0⟩) (by assumption) ?restj0
        case hyj0 => intro w hSw; (try dsimp only at hSw); (obtain ⟨⟨q0, q1, q2, q3, q4, q5, q6, q7, q8, q9⟩, p0, p1, p2, p3⟩ := hSw); (first | (go_simp; done) | (go_simp; with_reducible rfl) | (with_reducible rfl))
        try simp only [Act.put, List.setIfInBounds_toArray, List.set_cons_zero, List.set_cons_succ]
        refine wpAnyH_take (i := 1) (oi := { dst := some 24, op := Op.load 3 (Operand.tmp 23), type := 3, pos := "l07_plan.go:64", after := #[{ on := 0, ground := Ground.data }], guard := none }) (v := ?vj1) rfl (by kernel_rfl) (by kernel_rfl) (by kernel_rfl) (fun _ _ _ h => h) (Or.inl ⟨by rfl, ?hyj1⟩) (by assumption) ?restj1
        case hyj1 => intro w hSw; (try dsimp only at hSw); (obtain ⟨⟨q0, q1, q2, q3, q4, q5, q6, q7, q8, q9⟩, p0, p1, p2, p3⟩ := hSw); (first | (go_simp; done) | (go_simp; with_reducible rfl) | (with_reducible rfl))
        try simp only [Act.put, List.setIfInBounds_toArray, List.set_cons_zero, List.set_cons_succ]
        refine wpAnyH_take (i := 2) (oi := { dst := some 25, op := Op.move (Operand.tmp 6), type := 3, pos := "l07_plan.go:64", after := #[], guard := none }) (v := ?vj2) rfl (by kernel_rfl) (by kernel_rfl) (by kernel_rfl) (fun _ _ _ h => h) (Or.inl ⟨by rfl, ?hyj2⟩) (by assumption) ?restj2
        case hyj2 => intro w hSw; (try dsimp only at hSw); (obtain ⟨⟨q0, q1, q2, q3, q4, q5, q6, q7, q8, q9⟩, p0, p1, p2, p3⟩ := hSw); (first | (go_simp; done) | (go_simp; with_reducible rfl) | (with_reducible rfl))
        try simp only [Act.put, List.setIfInBounds_toArray, List.set_cons_zero, List.set_cons_succ]
        refine wpAnyH_take (i := 5) (oi := { dst := some 28, op := Op.move (Operand.tmp 1), type := 3, pos := "l07_plan.go:64", after := #[], guard := none }) (v := ?vj5) rfl (by kernel_rfl) (by kernel_rfl) (by kernel_rfl) (fun _ _ _ h => h) (Or.inl ⟨by rfl, ?hyj5⟩) (by assumption) ?restj5
        case hyj5 => intro w hSw; (try dsimp only at hSw); (obtain ⟨⟨q0, q1, q2, q3, q4, q5, q6, q7, q8, q9⟩, p0, p1, p2, p3⟩ := hSw); (first | (go_simp; done) | (go_simp; with_reducible rfl) | (with_reducible rfl))
        try simp only [Act.put, List.setIfInBounds_toArray, List.set_cons_zero, List.set_cons_succ]
        refine wpAnyH_ready (rs := [3]) (by kernel_rfl) (by simp) ?_
        refine AllReadyH.cons (o := { dst := some 26, op := Op.call { callee := Callee.value (Operand.func 80), args := #[Operand.tmp 25], argTypes := #[3] }, type := 3, pos := "l07_plan.go:64", after := #[{ on := 2, ground := Ground.data }], guard := none }) rfl (fun K hK => ?_) AllReadyH.nil
        go_simp
        refine (L2.out _).mono ?_
        rintro r w4 ⟨rfl, hb4'⟩
        have hb4 : Below W3.heap.size W3 w4 := (Below.refl _ _).drew.trans hb4'
        clear hb4'
        have K4 := Lib.hid (K3.out.step hb4)
        have Q4 := Lib.hid (Q.out.below hb4 sz)
        go_wp2_with fail
        refine hK.out _ _ (⟨K4.out.1.ten, Q4.out 0 _ rfl, Q4.out 1 _ rfl, Q4.out 2 _ rfl, Q4.out 3 _ rfl⟩) (fun hHeld => ?_)
        clear hK K
        try simp only [Act.put, List.setIfInBounds_toArray, List.set_cons_zero, List.set_cons_succ]
        refine wpAnyH_take (i := 4) (oi := { dst := some 27, op := Op.binOp BinOp.add 3 (Operand.tmp 24) (Operand.tmp 26) 3, type := 3, pos := "l07_plan.go:64", after := #[{ on := 1, ground := Ground.data }, { on := 3, ground := Ground.data }], guard := none }) (v := ?vj4) rfl (by kernel_rfl) (by kernel_rfl) (by kernel_rfl) (fun _ _ _ h => h) (Or.inl ⟨by rfl, ?hyj4⟩) (by assumption) ?restj4
        case hyj4 => intro w hSw; (try dsimp only at hSw); (obtain ⟨⟨q0, q1, q2, q3, q4, q5, q6, q7, q8, q9⟩, p0, p1, p2, p3⟩ := hSw); (first | (go_simp; done) | (go_simp; with_reducible rfl) | (with_reducible rfl))
        try simp only [Act.put, List.setIfInBounds_toArray, List.set_cons_zero, List.set_cons_succ]
        refine wpAnyH_take (i := 6) (oi := { dst := some 29, op := Op.binOp BinOp.leq 3 (Operand.tmp 27) (Operand.tmp 28) 3, type := 4, pos := "l07_plan.go:64", after := #[{ on := 4, ground := Ground.data }, { on := 5, ground := Ground.data }], guard := none }) (v := ?vj6) rfl (by kernel_rfl) (by kernel_rfl) (by kernel_rfl) (fun _ _ _ h => h) (Or.inl ⟨by rfl, ?hyj6⟩) (by assumption) ?restj6
        case hyj6 => intro w hSw; (try dsimp only at hSw); (obtain ⟨⟨q0, q1, q2, q3, q4, q5, q6, q7, q8, q9⟩, p0, p1, p2, p3⟩ := hSw); (first | (go_simp; done) | (go_simp; with_reducible rfl) | (with_reducible rfl))
        try simp only [Act.put, List.setIfInBounds_toArray, List.set_cons_zero, List.set_cons_succ]
        rw [HWd.out]
        refine wpAnyH_take (i := 7) (oi := { dst := some 30, op := Op.move (Operand.tmp 29), type := 4, pos := "l07_plan.go:64", after := #[{ on := 6, ground := Ground.data }, { on := 3, ground := Ground.chain }], guard := none }) (v := ?vj7) rfl (by kernel_rfl) (by kernel_rfl) (by kernel_rfl) (fun _ _ _ h => h) (Or.inl ⟨by rfl, ?hyj7⟩) (by assumption) ?restj7
        case hyj7 => intro w hSw; (try dsimp only at hSw); (obtain ⟨⟨q0, q1, q2, q3, q4, q5, q6, q7, q8, q9⟩, p0, p1, p2, p3⟩ := hSw); (first | (go_simp; done) | (go_simp; with_reducible rfl) | (with_reducible rfl))
        try simp only [Act.put, List.setIfInBounds_toArray, List.set_cons_zero, List.set_cons_succ]
        refine wpAnyH_take (i := 8) (oi := { dst := some 31, op := Op.move (Operand.tmp 6), type := 3, pos := "l07_plan.go:64", after := #[{ on := 7, ground := Ground.guard }], guard := some (7, true) }) (v := ?vj8) rfl (by kernel_rfl) (by kernel_rfl) (by kernel_rfl) (fun _ _ _ h => h) (Or.inl ⟨by rfl, ?hyj8⟩) (by assumption) ?restj8
        case hyj8 => intro w hSw; (try dsimp only at hSw); (obtain ⟨⟨q0, q1, q2, q3, q4, q5, q6, q7, q8, q9⟩, p0, p1, p2, p3⟩ := hSw); (first | (go_simp; done) | (go_simp; with_reducible rfl) | (with_reducible rfl))
        try simp only [Act.put, List.setIfInBounds_toArray, List.set_cons_zero, List.set_cons_succ]
        refine wpAnyH_take (i := 9) (oi := { dst := some 32, op := Op.binOp BinOp.eql 3 (Operand.tmp 31) (Operand.const (Value.int IntKind.i64 2)) 3, type := 4, pos := "l07_plan.go:64", after := #[{ on := 8, ground := Ground.data }, { on := 7, ground := Ground.guard }], guard := some (7, true) }) (v := ?vj9) rfl (by kernel_rfl) (by kernel_rfl) (by kernel_rfl) (fun _ _ _ h => h) (Or.inl ⟨by rfl, ?hyj9⟩) (by assumption) ?restj9
        case hyj9 => intro w hSw; (try dsimp only at hSw); (obtain ⟨⟨q0, q1, q2, q3, q4, q5, q6, q7, q8, q9⟩, p0, p1, p2, p3⟩ := hSw); (first | (go_simp; done) | (go_simp; with_reducible rfl) | (with_reducible rfl))
        try simp only [Act.put, List.setIfInBounds_toArray, List.set_cons_zero, List.set_cons_succ]
        refine wpAnyH_take (i := 10) (oi := { dst := some 33, op := Op.move (Operand.tmp 32), type := 4, pos := "l07_plan.go:64", after := #[{ on := 9, ground := Ground.data }, { on := 7, ground := Ground.chain }, { on := 7, ground := Ground.guard }], guard := some (7, true) }) (v := ?vj10) rfl (by kernel_rfl) (by kernel_rfl) (by kernel_rfl) (fun _ _ _ h => h) (Or.inl ⟨by rfl, ?hyj10⟩) (by assumption) ?restj10
        case hyj10 => intro w hSw; (try dsimp only at hSw); (obtain ⟨⟨q0, q1, q2, q3, q4, q5, q6, q7, q8, q9⟩, p0, p1, p2, p3⟩ := hSw); (first | (go_simp; done) | (go_simp; with_reducible rfl) | (with_reducible rfl))
        try simp only [Act.put, List.setIfInBounds_toArray, List.set_cons_zero, List.set_cons_succ]
        refine wpAnyH_take (i := 11) (oi := { dst := some 34, op := Op.fieldAddr 44 (Operand.tmp 8) 2, type := 0, pos := "l07_plan.go:64", after := #[{ on := 10, ground := Ground.guard }], guard := some (10, false) }) (v := undef) rfl (by kernel_rfl) (by kernel_rfl) (by kernel_rfl) (fun _ _ _ h => h) (Or.inr ⟨by rfl, rfl⟩) (by assumption) ?_
        try simp only [Act.put, List.setIfInBounds_toArray, List.set_cons_zero, List.set_cons_succ]
        refine wpAnyH_take (i := 12) (oi := { dst := some 35, op := Op.load 3 (Operand.tmp 34), type := 3, pos := "l07_plan.go:64", after := #[{ on := 11, ground := Ground.data }, { on := 10, ground := Ground.guard }], guard := some (10, false) }) (v := undef) rfl (by kernel_rfl) (by kernel_rfl) (by kernel_rfl) (fun _ _ _ h => h) (Or.inr ⟨by rfl, rfl⟩) (by assumption) ?_
        try simp only [Act.put, List.setIfInBounds_toArray, List.set_cons_zero, List.set_cons_succ]
        refine wpAnyH_take (i := 13) (oi := { dst := some 36, op := Op.move (Operand.tmp 6), type := 3, pos := "l07_plan.go:64", after := #[{ on := 10, ground := Ground.guard }], guard := some (10, false) }) (v := undef) rfl (by kernel_rfl) (by kernel_rfl) (by kernel_rfl) (fun _ _ _ h => h) (Or.inr ⟨by rfl, rfl⟩) (by assumption) ?_
        try simp only [Act.put, List.setIfInBounds_toArray, List.set_cons_zero, List.set_cons_succ]
        refine wpAnyH_take (i := 14) (oi := { dst := some 37, op := Op.binOp BinOp.add 3 (Operand.tmp 36) (Operand.const (Value.int IntKind.i64 1)) 3, type := 3, pos := "l07_plan.go:64", after := #[{ on := 13, ground := Ground.data }, { on := 10, ground := Ground.guard }], guard := some (10, false) }) (v := undef) rfl (by kernel_rfl) (by kernel_rfl) (by kernel_rfl) (fun _ _ _ h => h) (Or.inr ⟨by rfl, rfl⟩) (by assumption) ?_
        try simp only [Act.put, List.setIfInBounds_toArray, List.set_cons_zero, List.set_cons_succ]
        refine wpAnyH_take (i := 15) (oi := { dst := some 38, op := Op.fieldAddr 33 (Operand.tmp 2) 5, type := 0, pos := "l07_plan.go:64", after := #[{ on := 10, ground := Ground.guard }], guard := some (10, false) }) (v := undef) rfl (by kernel_rfl) (by kernel_rfl) (by kernel_rfl) (fun _ _ _ h => h) (Or.inr ⟨by rfl, rfl⟩) (by assumption) ?_
        try simp only [Act.put, List.setIfInBounds_toArray, List.set_cons_zero, List.set_cons_succ]
        refine wpAnyH_take (i := 16) (oi := { dst := some 39, op := Op.indexAddr 24 (Operand.tmp 38) (Operand.tmp 37), type := 0, pos := "l07_plan.go:64", after := #[{ on := 15, ground := Ground.data }, { on := 14, ground := Ground.data }, { on := 10, ground := Ground.guard }], guard := some (10, false) }) (v := undef) rfl (by kernel_rfl) (by kernel_rfl) (by kernel_rfl) (fun _ _ _ h => h) (Or.inr ⟨by rfl, rfl⟩) (by assumption) ?_
        try simp only [Act.put, List.setIfInBounds_toArray, List.set_cons_zero, List.set_cons_succ]
        refine wpAnyH_take (i := 17) (oi := { dst := some 40, op := Op.load 3 (Operand.tmp 39), type := 3, pos := "l07_plan.go:64", after := #[{ on := 16, ground := Ground.data }, { on := 10, ground := Ground.guard }], guard := some (10, false) }) (v := undef) rfl (by kernel_rfl) (by kernel_rfl) (by kernel_rfl) (fun _ _ _ h => h) (Or.inr ⟨by rfl, rfl⟩) (by assumption) ?_
        try simp only [Act.put, List.setIfInBounds_toArray, List.set_cons_zero, List.set_cons_succ]
        refine wpAnyH_take (i := 18) (oi := { dst := some 41, op := Op.binOp BinOp.leq 3 (Operand.tmp 35) (Operand.tmp 40) 3, type := 4, pos := "l07_plan.go:64", after := #[{ on := 12, ground := Ground.data }, { on := 17, ground := Ground.data }, { on := 10, ground := Ground.guard }], guard := some (10, false) }) (v := undef) rfl (by kernel_rfl) (by kernel_rfl) (by kernel_rfl) (fun _ _ _ h => h) (Or.inr ⟨by rfl, rfl⟩) (by assumption) ?_
        try simp only [Act.put, List.setIfInBounds_toArray, List.set_cons_zero, List.set_cons_succ]
        refine wpAnyH_take (i := 19) (oi := { dst := some 42, op := Op.pick (Operand.tmp 33) (Operand.const (Value.bool true)) (Operand.tmp 41), type := 4, pos := "l07_plan.go:64", after := #[{ on := 10, ground := Ground.data }, { on := 18, ground := Ground.data }, { on := 7, ground := Ground.guard }], guard := some (7, true) }) (v := ?vj19) rfl (by kernel_rfl) (by kernel_rfl) (by kernel_rfl) (fun _ _ _ h => h) (Or.inl ⟨by rfl, ?hyj19⟩) (by assumption) ?restj19
        case hyj19 => intro w hSw; (try dsimp only at hSw); (obtain ⟨⟨q0, q1, q2, q3, q4, q5, q6, q7, q8, q9⟩, p0, p1, p2, p3⟩ := hSw); (first | (go_simp; done) | (go_simp; with_reducible rfl) | (with_reducible rfl))
        try simp only [Act.put, List.setIfInBounds_toArray, List.set_cons_zero, List.set_cons_succ]
        refine wpAnyH_take (i := 20) (oi := { dst := some 43, op := Op.pick (Operand.tmp 30) (Operand.tmp 42) (Operand.const (Value.bool false)), type := 4, pos := "l07_plan.go:64", after := #[{ on := 7, ground := Ground.data }, { on := 19, ground := Ground.data }], guard := none }) (v := ?vj20) rfl (by kernel_rfl) (by kernel_rfl) (by kernel_rfl) (fun _ _ _ h => h) (Or.inl ⟨by rfl, ?hyj20⟩) (by assumption) ?restj20
        case hyj20 => intro w hSw; (try dsimp only at hSw); (obtain ⟨⟨q0, q1, q2, q3, q4, q5, q6, q7, q8, q9⟩, p0, p1, p2, p3⟩ := hSw); (first | (go_simp; done) | (go_simp; with_reducible rfl) | (with_reducible rfl))
        try simp only [Act.put, List.setIfInBounds_toArray, List.set_cons_zero, List.set_cons_succ]
        refine wpAnyH_done (by kernel_rfl) ?_ _
        refine NoPanic.normal ?_
        clear hHeld CS QS hb4
        cases hup : true
        · have HA2 := Lib.hid (HA.out (HAG.out _ hup))
          clear HA HV HAG
          go_wp2_with fail
          go_roundw
          case rel => exact ⟨3, by omega, rfl, HA2, K4⟩
          case measure => simp [intOf]
        · have hv := HV.out (HAG.out _ hup)
          have HVV := Lib.hid hv
          clear HA HV HAG hv
          obtain ⟨q0, q1, q2, q3⟩ : w4.cell? ⟨z, 0, none⟩ = some (.int .i64 2) ∧ w4.cell? ⟨z, 1, none⟩ = some (.int .i64 eb) ∧ w4.cell? ⟨z, 2, none⟩ = some (.int .i64 ef) ∧ w4.cell? ⟨z, 3, none⟩ = some (.string ek) := ⟨Q4.out 0 _ rfl, Q4.out 1 _ rfl, Q4.out 2 _ rfl, Q4.out 3 _ rfl⟩
          obtain ⟨z0, z1, z2, z3, f0⟩ := K4.out.zero
          go_wp2
          refine bodyPost_ret (v := .tuple #[.agg #[.int .i64 2, .int .i64 eb, .int .i64 ef, .string ek], .bool true]) (by simp [results, Tryd.results51, go_sem, *]) rfl (FIN.out _ _ HVV.out (K4.out.fin _ _ _ _))
    · have hv := expV_no HN.out
      obtain ⟨z0, z1, z2, z3, f0⟩ := K.out.zero
      go_wp2
      refine bodyPost_ret (v := .tuple #[.agg #[.int .i64 0, .int .i64 0, .int .i64 0, .string ⟨#[]⟩], .bool false]) (by simp [results, Tryd.results51, go_sem, *]) rfl (FINZ.out _ hv (K.out.fin _ _ _ _))

set_option maxRecDepth 100000 in
set_option maxHeartbeats 1000000 in
theorem specExpiredEntry_any (A : Option Addr) (c : Nat) (A2 : Option Addr) (c2 : Nat) (s : GSt) (now : Int) (B : Nat) (w : World) (h : StAt w B A A2 s) (hB : B ≤ w.heap.size) (hf : ∀ o ∈ s.ents, o.small) (hf2 : ∀ o ∈ s.tmbs, o.small) (hl : s.ents.length ≤ 1048576) (hl2 : s.tmbs.length ≤ 1048576) :
    Calls Tryd.prog 19 #[.agg #[.int .i64 s.sq, .int .i64 s.fe, .slice A s.ents.length c, .slice A2 s.tmbs.length c2, .int .i64 s.lo.a, .int .i64 s.lo.b, .int .i64 s.lo.c, .int .i64 s.hi.a, .int .i64 s.hi.b, .int .i64 s.hi.c], .int .i64 now] w (ExpR s now w) := by
  have H := Lib.hid h; clear h
  have Hf := Lib.hid hf; clear hf
  have Hf2 := Lib.hid hf2; clear hf2
  go_enter Tryd.func19, Tryd.ntmps19
  go_wp2_with fail
  have K0 : Hid (ExpKept w w.heap.size A c A2 c2 s ((w.alloc (.cells #[.int .i64 s.sq, .int .i64 s.fe, .slice A s.ents.length c, .slice A2 s.tmbs.length c2, .int .i64 s.lo.a, .int .i64 s.lo.b, .int .i64 s.lo.c, .int .i64 s.hi.a, .int .i64 s.hi.b, .int .i64 s.hi.c] 33)).alloc (.cells #[.int .i64 0, .int .i64 0, .int .i64 0, .string ⟨#[]⟩] 44))) := Lib.hid (by
    have k1 := (Cells.new w [.int .i64 s.sq, .int .i64 s.fe, .slice A s.ents.length c, .slice A2 s.tmbs.length c2, .int .i64 s.lo.a, .int .i64 s.lo.b, .int .i64 s.lo.c, .int .i64 s.hi.a, .int .i64 s.hi.b, .int .i64 s.hi.c] 33).below (bal (Below.refl _ _) (.cells #[.int .i64 0, .int .i64 0, .int .i64 0, .string ⟨#[]⟩] 44)) (by simp)
    have k2 := Cells.new (w.alloc (.cells #[.int .i64 s.sq, .int .i64 s.fe, .slice A s.ents.length c, .slice A2 s.tmbs.length c2, .int .i64 s.lo.a, .int .i64 s.lo.b, .int .i64 s.lo.c, .int .i64 s.hi.a, .int .i64 s.hi.b, .int .i64 s.hi.c] 33)) [.int .i64 0, .int .i64 0, .int .i64 0, .string ⟨#[]⟩] 44
    have k3 := free_alloc (w.alloc (.cells #[.int .i64 s.sq, .int .i64 s.fe, .slice A s.ents.length c, .slice A2 s.tmbs.length c2, .int .i64 s.lo.a, .int .i64 s.lo.b, .int .i64 s.lo.c, .int .i64 s.hi.a, .int .i64 s.hi.b, .int .i64 s.hi.c] 33)) #[.int .i64 0, .int .i64 0, .int .i64 0, .string ⟨#[]⟩] 44 0
    exact ⟨by simpa using k1, by simpa using k2, by simpa using k3, by simp, bal (bal (Below.refl _ _) _) _⟩)
  generalize ((w.alloc (.cells #[.int .i64 s.sq, .int .i64 s.fe, .slice A s.ents.length c, .slice A2 s.tmbs.length c2, .int .i64 s.lo.a, .int .i64 s.lo.b, .int .i64 s.lo.c, .int .i64 s.hi.a, .int .i64 s.hi.b, .int .i64 s.hi.c] 33)).alloc (.cells #[.int .i64 0, .int .i64 0, .int .i64 0, .string ⟨#[]⟩] 44)) = W at *
  generalize hx0 : w.heap.size = x0 at *
  have Hx0 := Lib.hid hx0; clear hx0
  have HS : Hid (∀ w', Below x0 w w' → StAt w' x0 A A2 s) := Lib.hid fun w' hb => (H.out.below hb (by have := Hx0.out; omega)).more (by have := Hx0.out; omega)
  clear H
  have s0 := K0.out.2.2.2.1
  refine (specStateOK_any A c A2 c2 s x0 W (HS.out _ K0.out.2.2.2.2) (by omega) Hf.out Hf2.out hl hl2).mono ?_
  rintro e w1 ⟨bs, hbs, rfl, hb1⟩
  have K1 := Lib.hid (K0.out.step hb1)
  clear K0 hb1 s0
  cases bs
  · have HN := Lib.hid (show ¬ StP s from fun h => by have := hbs.2 h; cases this)
    clear hbs
    obtain ⟨z0, z1, z2, z3, f0⟩ := K1.out.zero
    go_wp2
    refine bodyPost_ret (v := .tuple #[.agg #[.int .i64 0, .int .i64 0, .int .i64 0, .string ⟨#[]⟩], .bool false, .int .i64 1]) (by simp [results, Tryd.results19, go_sem, *]) rfl ⟨zEnt, false, 1, Or.inr (Or.inl ⟨HN.out, rfl, rfl, rfl⟩), rfl, by rw [Hx0.out]; exact K1.out.fin _ _ _ _⟩
  have HSP := Lib.hid (hbs.1 rfl); clear hbs
  cases hn : inB now 0 101000
  · have HN := Lib.hid (show ¬ NowP now from fun h => by have := inB_iff.2 h; rw [hn] at this; cases this)
    have HNN := Lib.hid hn; clear hn
    obtain ⟨z0, z1, z2, z3, f0⟩ := K1.out.zero
    go_wp2_with (go_at_call 50; refine (l05NowB_any _ _).mono ?_; rw [HNN.out]; rintro e w' ⟨rfl, rfl⟩)
    refine bodyPost_ret (v := .tuple #[.agg #[.int .i64 0, .int .i64 0, .int .i64 0, .string ⟨#[]⟩], .bool false, .int .i64 4]) (by simp [results, Tryd.results19, go_sem, *]) rfl ⟨zEnt, false, 4, Or.inr (Or.inr ⟨HSP.out, HN.out, rfl, rfl, rfl⟩), rfl, by rw [Hx0.out]; exact K1.out.fin _ _ _ _⟩
  have HNW : Hid (NowP now) := Lib.hid (inB_iff.1 hn)
  have HNN := Lib.hid hn; clear hn
  obtain ⟨c0, c1, c2', c3, c4, c5, c6, c7, c8, c9⟩ := K1.out.1.ten
  go_wp2_with (go_at_call 50; refine (l05NowB_any _ _).mono ?_; rw [HNN.out]; rintro e w' ⟨rfl, rfl⟩)
  refine (l07Expired_any A c A2 c2 s now x0 w1 (HS.out _ K1.out.2.2.2.2) (by have := K1.out.2.2.2.1; omega) hl HSP.out).mono ?_
  rintro e w3 ⟨x, hx, rfl, hb3⟩
  have K3 := Lib.hid (K1.out.step hb3)
  clear K1 hb3 c0 c1 c2' c3 c4 c5 c6 c7 c8 c9
  have HX := Lib.hid hx; clear hx
  have FIN : Hid (∀ b wf, b = (expV s now).isSome → Below x0 w wf → ExpR s now w (.returned (.tuple #[.agg #[.int .i64 x.tier, .int .i64 x.beg, .int .i64 x.fin, .string x.key], .bool b, .int .i64 0])) wf) := Lib.hid fun b wf he hb => ⟨x, b, 0, Or.inl ⟨HSP.out, HNW.out, HX.out, he, rfl⟩, rfl, by rw [Hx0.out]; exact hb⟩
  generalize hbb : (expV s now).isSome = bb
  rw [hbb] at FIN
  have HBB : Hid (bb = bb) := Lib.hid rfl; clear hbb
  obtain ⟨z0, z1, z2, z3, f0⟩ := K3.out.zero
  have hx3 : x0 + 1 < w3.heap.size := K3.out.2.2.2.1
  have FIN2 : Hid (∀ a b d e o, ExpR s now w (.returned (.tuple #[.agg #[.int .i64 x.tier, .int .i64 x.beg, .int .i64 x.fin, .string x.key], .bool bb, .int .i64 0])) (((((w3.setCell ⟨x0 + 1, 0, none⟩ a).setCell ⟨x0 + 1, 1, none⟩ b).setCell ⟨x0 + 1, 2, none⟩ d).setCell ⟨x0 + 1, 3, none⟩ e).alloc o)) := Lib.hid fun a b d e o => FIN.out _ _ HBB.out.symm ((K3.out.fin a b d e).alloc (by simp only [size_setCell]; have := K3.out.2.2.2.1; omega) _)
  go_wp2
  refine bodyPost_ret (v := .tuple #[.agg #[.int .i64 x.tier, .int .i64 x.beg, .int .i64 x.fin, .string x.key], .bool bb, .int .i64 0]) (by simp [results, Tryd.results19, go_sem, *]) rfl (FIN2.out _ _ _ _ _)

end Go.Proofs.YthmpmagajbmpaaaDoor
