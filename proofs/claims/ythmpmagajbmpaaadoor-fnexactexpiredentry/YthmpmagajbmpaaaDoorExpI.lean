/-
  Contract of the program's ExpiredEntry. Conditions: the program's tables of paths and of keeping are as their texts lay them; lengths.
-/
import Derived.Test.YthmpmagajbmpaaaDoorStpK
import Derived.Test.YthmpmagajbmpaaaDoorFstI
namespace Go.Proofs.YthmpmagajbmpaaaDoor
open Go.ChangeShapes Go.WideShapes Go.ChangeAt Go.RowKit Go.Deep Go.Joins Go.Maps
set_option linter.unusedVariables false
set_option linter.unusedSimpArgs false


theorem isNowB_any (n : Int) (w : World) : Calls Tryd.prog 52 #[.int .i64 n] w fun e w' => e = .returned (.bool (inB n 0 101000)) ∧ w = w' := by
  go_enter Tryd.func52, Tryd.ntmps52
  go_wp2_with (go_at_call 70; refine (within_any _ _ _ _).mono ?_; rintro e w' ⟨rfl, rfl⟩)
  go_ret
  exact ⟨rfl, rfl⟩

theorem firstOf_none (A : Option Addr) (c : Nat) (A2 : Option Addr) (c2 : Nat) (s : GSt) (t : Int) (B : Nat) (w : World) (h : StAt w B A A2 s) (hB : B ≤ w.heap.size) (hl : s.ents.length ≤ 1048576) (h1 : firstE s.ents t = none) :
    Calls Tryd.prog 53 #[.agg #[.int .i64 s.sq, .int .i64 s.fe, .slice A s.ents.length c, .slice A2 s.tmbs.length c2, .int .i64 s.lo.a, .int .i64 s.lo.b, .int .i64 s.lo.c, .int .i64 s.hi.a, .int .i64 s.hi.b, .int .i64 s.hi.c], .int .i64 t] w fun r w' => r = .returned (.tuple #[.agg #[.int .i64 0, .int .i64 0, .int .i64 0, .string ⟨#[]⟩], .bool false]) ∧ Below w.heap.size w w' :=
  (firstOf_any A c A2 c2 s t B w h hB hl).mono fun r w' ⟨he, hb⟩ => ⟨by rw [he, h1]; rfl, hb⟩

theorem firstOf_some (A : Option Addr) (c : Nat) (A2 : Option Addr) (c2 : Nat) (s : GSt) (t : Int) (e : GEnt) (B : Nat) (w : World) (h : StAt w B A A2 s) (hB : B ≤ w.heap.size) (hl : s.ents.length ≤ 1048576) (h1 : firstE s.ents t = some e) :
    Calls Tryd.prog 53 #[.agg #[.int .i64 s.sq, .int .i64 s.fe, .slice A s.ents.length c, .slice A2 s.tmbs.length c2, .int .i64 s.lo.a, .int .i64 s.lo.b, .int .i64 s.lo.c, .int .i64 s.hi.a, .int .i64 s.hi.b, .int .i64 s.hi.c], .int .i64 t] w fun r w' => r = .returned (.tuple #[.agg #[.int .i64 e.tier, .int .i64 e.beg, .int .i64 e.fin, .string e.key], .bool true]) ∧ Below w.heap.size w w' :=
  (firstOf_any A c A2 c2 s t B w h hB hl).mono fun r w' ⟨he, hb⟩ => ⟨by rw [he, h1]; rfl, hb⟩

/-- what a round of the search holds to -/
def ExpKept (w : World) (x0 : Nat) (A : Option Addr) (c : Nat) (A2 : Option Addr) (c2 : Nat) (s : GSt) (wr : World) : Prop :=
  Cells wr x0 0 [.int .i64 s.sq, .int .i64 s.fe, .slice A s.ents.length c, .slice A2 s.tmbs.length c2, .int .i64 s.lo.a, .int .i64 s.lo.b, .int .i64 s.lo.c, .int .i64 s.hi.a, .int .i64 s.hi.b, .int .i64 s.hi.c] ∧ Cells wr (x0 + 1) 0 [.int .i64 0, .int .i64 0, .int .i64 0, .string ⟨#[]⟩] ∧ Free wr (some ⟨x0 + 1, 0, none⟩) ∧ x0 + 1 < wr.heap.size ∧ Below x0 w wr

theorem ExpKept.step {w wr w' : World} {x0 : Nat} {A A2 : Option Addr} {c c2 : Nat} {s : GSt} (K : ExpKept w x0 A c A2 c2 s wr) (hb : Below wr.heap.size wr w') : ExpKept w x0 A c A2 c2 s w' := by
  obtain ⟨h1, h2, h3, h4, h5⟩ := K
  exact ⟨h1.below hb (by omega), h2.below hb h4, h3.below hb (fun b e => by simp [blk] at e; omega), Nat.lt_of_lt_of_le h4 hb.size, h5.trans (hb.mono (by omega))⟩

theorem ExpKept.zero {w wr : World} {x0 : Nat} {A A2 : Option Addr} {c c2 : Nat} {s : GSt} (K : ExpKept w x0 A c A2 c2 s wr) :
    wr.cell? ⟨x0 + 1, 0, none⟩ = some (.int .i64 0) ∧ wr.cell? ⟨x0 + 1, 1, none⟩ = some (.int .i64 0) ∧ wr.cell? ⟨x0 + 1, 2, none⟩ = some (.int .i64 0) ∧ wr.cell? ⟨x0 + 1, 3, none⟩ = some (.string ⟨#[]⟩) ∧ ∀ i, wr.frozen? ⟨x0 + 1, i, none⟩ = false :=
  ⟨K.2.1 0 _ rfl, K.2.1 1 _ rfl, K.2.1 2 _ rfl, K.2.1 3 _ rfl, K.2.2.1 _ rfl⟩

theorem ExpKept.fin {w wr : World} {x0 : Nat} {A A2 : Option Addr} {c c2 : Nat} {s : GSt} (K : ExpKept w x0 A c A2 c2 s wr) (a b d e : Value) : Below x0 w ((((wr.setCell ⟨x0 + 1, 0, none⟩ a).setCell ⟨x0 + 1, 1, none⟩ b).setCell ⟨x0 + 1, 2, none⟩ d).setCell ⟨x0 + 1, 3, none⟩ e) :=
  (((K.2.2.2.2.setCell (by show x0 ≤ x0 + 1; omega) a).setCell (by show x0 ≤ x0 + 1; omega) b).setCell (by show x0 ≤ x0 + 1; omega) d).setCell (by show x0 ≤ x0 + 1; omega) e

set_option maxRecDepth 100000 in
set_option maxHeartbeats 4000000 in
theorem expiredEntry_any (A : Option Addr) (c : Nat) (A2 : Option Addr) (c2 : Nat) (s : GSt) (now : Int) (B : Nat) (w : World) (h : StAt w B A A2 s) (hB : B ≤ w.heap.size) (hf : ∀ o ∈ s.ents, o.fit) (hf2 : ∀ o ∈ s.tmbs, o.fit) (hl : s.ents.length ≤ 1048576) (hl2 : s.tmbs.length ≤ 1048576) (hp : Paths w) (hz : 2 < w.heap.size) (ht : Tab3 1 kep w) (hz2 : 1 < w.heap.size) :
    Calls Tryd.prog 20 #[.agg #[.int .i64 s.sq, .int .i64 s.fe, .slice A s.ents.length c, .slice A2 s.tmbs.length c2, .int .i64 s.lo.a, .int .i64 s.lo.b, .int .i64 s.lo.c, .int .i64 s.hi.a, .int .i64 s.hi.b, .int .i64 s.hi.c], .int .i64 now] w (ExpR s now w) := by
  have H := Lib.hid h; clear h
  have Hf := Lib.hid hf; clear hf
  have Hf2 := Lib.hid hf2; clear hf2
  have HP : Hid (∀ w', Below w.heap.size w w' → (Paths w' ∧ 2 < w'.heap.size) ∧ Tab3 1 kep w' ∧ 1 < w'.heap.size) := Lib.hid (fun w' h => ⟨⟨hp.below h hz, Nat.lt_of_lt_of_le hz h.size⟩, ht.below h hz2, Nat.lt_of_lt_of_le hz2 h.size⟩)
  clear hp ht
  go_enter Tryd.func20, Tryd.ntmps20
  go_wp2_with fail
  have K0 : Hid (ExpKept w w.heap.size A c A2 c2 s ((w.alloc (.cells #[.int .i64 s.sq, .int .i64 s.fe, .slice A s.ents.length c, .slice A2 s.tmbs.length c2, .int .i64 s.lo.a, .int .i64 s.lo.b, .int .i64 s.lo.c, .int .i64 s.hi.a, .int .i64 s.hi.b, .int .i64 s.hi.c] 33)).alloc (.cells #[.int .i64 0, .int .i64 0, .int .i64 0, .string ⟨#[]⟩] 44))) := Lib.hid (by
    have k1 := (Cells.new w [.int .i64 s.sq, .int .i64 s.fe, .slice A s.ents.length c, .slice A2 s.tmbs.length c2, .int .i64 s.lo.a, .int .i64 s.lo.b, .int .i64 s.lo.c, .int .i64 s.hi.a, .int .i64 s.hi.b, .int .i64 s.hi.c] 33).below (bal (Below.refl _ _) (.cells #[.int .i64 0, .int .i64 0, .int .i64 0, .string ⟨#[]⟩] 44)) (by simp)
    have k2 := Cells.new (w.alloc (.cells #[.int .i64 s.sq, .int .i64 s.fe, .slice A s.ents.length c, .slice A2 s.tmbs.length c2, .int .i64 s.lo.a, .int .i64 s.lo.b, .int .i64 s.lo.c, .int .i64 s.hi.a, .int .i64 s.hi.b, .int .i64 s.hi.c] 33)) [.int .i64 0, .int .i64 0, .int .i64 0, .string ⟨#[]⟩] 44
    have k3 := free_alloc (w.alloc (.cells #[.int .i64 s.sq, .int .i64 s.fe, .slice A s.ents.length c, .slice A2 s.tmbs.length c2, .int .i64 s.lo.a, .int .i64 s.lo.b, .int .i64 s.lo.c, .int .i64 s.hi.a, .int .i64 s.hi.b, .int .i64 s.hi.c] 33)) #[.int .i64 0, .int .i64 0, .int .i64 0, .string ⟨#[]⟩] 44 0
    exact ⟨by simpa using k1, by simpa using k2, by simpa using k3, by simp, bal (bal (Below.refl _ _) _) _⟩)
  generalize ((w.alloc (.cells #[.int .i64 s.sq, .int .i64 s.fe, .slice A s.ents.length c, .slice A2 s.tmbs.length c2, .int .i64 s.lo.a, .int .i64 s.lo.b, .int .i64 s.lo.c, .int .i64 s.hi.a, .int .i64 s.hi.b, .int .i64 s.hi.c] 33)).alloc (.cells #[.int .i64 0, .int .i64 0, .int .i64 0, .string ⟨#[]⟩] 44)) = W at *
  generalize hx0 : w.heap.size = x0 at *
  have Hx0 := Lib.hid hx0; clear hx0
  have HS : Hid (∀ w', Below x0 w w' → StAt w' x0 A A2 s) := Lib.hid fun w' hb => (H.out.below hb (by have := Hx0.out; omega)).more (by have := Hx0.out; omega)
  clear H
  have s0 := K0.out.2.2.2.1
  refine (stRight_any A c A2 c2 s x0 W (HS.out _ K0.out.2.2.2.2) (by omega) Hf.out Hf2.out hl hl2 (HP.out _ K0.out.2.2.2.2).1.1 (HP.out _ K0.out.2.2.2.2).1.2).mono ?_
  rintro e w1 ⟨bs, hbs, rfl, hb1⟩
  have K1 := Lib.hid (K0.out.step hb1)
  clear K0 hb1 s0
  cases bs
  · have HN := Lib.hid (show ¬ StP s from fun h => by have := hbs.2 h; cases this)
    clear hbs
    obtain ⟨z0, z1, z2, z3, f0⟩ := K1.out.zero
    go_wp2
    refine bodyPost_ret (v := .tuple #[.agg #[.int .i64 0, .int .i64 0, .int .i64 0, .string ⟨#[]⟩], .bool false, .int .i64 1]) (by simp [results, Tryd.results20, go_sem, *]) rfl ⟨zEnt, false, 1, Or.inr (Or.inl ⟨HN.out, rfl, rfl, rfl⟩), rfl, by rw [Hx0.out]; exact K1.out.fin _ _ _ _⟩
  have HSP := Lib.hid (hbs.1 rfl); clear hbs
  cases hn : inB now 0 101000
  · have HN := Lib.hid (show ¬ NowP now from fun h => by have := inB_iff.2 h; rw [hn] at this; cases this)
    have HNN := Lib.hid hn; clear hn
    obtain ⟨z0, z1, z2, z3, f0⟩ := K1.out.zero
    go_wp2_with (go_at_call 52; refine (isNowB_any _ _).mono ?_; rw [HNN.out]; rintro e w' ⟨rfl, rfl⟩)
    refine bodyPost_ret (v := .tuple #[.agg #[.int .i64 0, .int .i64 0, .int .i64 0, .string ⟨#[]⟩], .bool false, .int .i64 4]) (by simp [results, Tryd.results20, go_sem, *]) rfl ⟨zEnt, false, 4, Or.inr (Or.inr ⟨HSP.out, HN.out, rfl, rfl, rfl⟩), rfl, by rw [Hx0.out]; exact K1.out.fin _ _ _ _⟩
  have HNW : Hid (NowP now) := Lib.hid (inB_iff.1 hn)
  have HNN := Lib.hid hn; clear hn
  have FIN : Hid (∀ e wf, expV s now = some e → Below x0 w wf → ExpR s now w (.returned (.tuple #[.agg #[.int .i64 e.tier, .int .i64 e.beg, .int .i64 e.fin, .string e.key], .bool true, .int .i64 0])) wf) := Lib.hid fun e wf he hb => ⟨e, true, 0, Or.inl ⟨HSP.out, HNW.out, by rw [he]; rfl, by rw [he]; rfl, rfl⟩, rfl, by rw [Hx0.out]; exact hb⟩
  have FINZ : Hid (∀ wf, expV s now = none → Below x0 w wf → ExpR s now w (.returned (.tuple #[.agg #[.int .i64 0, .int .i64 0, .int .i64 0, .string ⟨#[]⟩], .bool false, .int .i64 0])) wf) := Lib.hid fun wf he hb => ⟨zEnt, false, 0, Or.inl ⟨HSP.out, HNW.out, by rw [he]; rfl, by rw [he]; rfl, rfl⟩, rfl, by rw [Hx0.out]; exact hb⟩
  have HFI : Hid (∀ t e, firstE s.ents t = some e → e.tier = t ∧ 0 ≤ e.fin ∧ e.fin ≤ 100000) := Lib.hid fun t e he => by
    have hm := firstE_mem he
    obtain ⟨j, hj, rfl⟩ := List.getElem_of_mem hm.1
    have := (HSP.out.ent hj).rng
    exact ⟨hm.2, by omega, by omega⟩
  clear HSP HNW
  go_wp2_with (go_at_call 52; refine (isNowB_any _ _).mono ?_; rw [HNN.out]; rintro e w' ⟨rfl, rfl⟩)
  go_loopw [20] (fun i wr => ∃ k : Nat, k ≤ 3 ∧ i = .int .i64 k ∧ Hid (∀ j, j < k → expAt s now j = none) ∧ Hid (ExpKept w x0 A c A2 c2 s wr)) (fun i _ => 3 - (intOf i).toNat)
  case atStart => exact ⟨0, by omega, rfl, Lib.hid (fun j hj => by omega), K1⟩
  case round =>
    clear K1
    obtain ⟨k, hk, rfl, HN, K⟩ := hrel
    rcases (show k = 0 ∨ k = 1 ∨ k = 2 ∨ k = 3 by omega) with rfl | rfl | rfl | rfl
    · obtain ⟨c0, c1, c2', c3, c4, c5, c6, c7, c8, c9⟩ := K.out.1.ten
      rcases hE : firstE s.ents 0 with _ | e
      · have HA : Hid (∀ j, j < 1 → expAt s now j = none) := Lib.hid fun j hj => by
          by_cases e : j = 0
          · subst e; unfold expAt; simp [hE]
          · exact HN.out j (by omega)
        have HE := Lib.hid hE; clear hE HN
        go_wp2_with fail
        refine (firstOf_none A c A2 c2 s 0 x0 wr (HS.out _ K.out.2.2.2.2) (by have := K.out.2.2.2.1; omega) hl HE.out).mono ?_
        rintro r w2 ⟨rfl, hb2⟩
        have K2 := Lib.hid (K.out.step hb2)
        clear K hb2 c0 c1 c2' c3 c4 c5 c6 c7 c8 c9
        go_wp2_with fail
        have K3 : Hid (ExpKept w x0 A c A2 c2 s (w2.alloc (.cells #[.int .i64 0, .int .i64 0, .int .i64 0, .string ⟨#[]⟩] 44))) := Lib.hid (K2.out.step (bal (Below.refl _ _) _))
        go_quiet (fail)
        go_wp2_with fail
        go_roundw
        case rel => exact ⟨1, by omega, rfl, HA, Lib.hid (K3.out.step (bdrewB (Below.refl _ _) _))⟩
        case measure => simp [intOf]
      · have hfi := HFI.out _ e hE
        obtain ⟨et, eb, ef, ek⟩ := e
        obtain ⟨het, hf0, hf1⟩ : et = 0 ∧ 0 ≤ ef ∧ ef ≤ 100000 := hfi
        subst het
        have HA : Hid (ageB s now 0 ⟨0, eb, ef, ek⟩ = false → ∀ j, j < 1 → expAt s now j = none) := Lib.hid fun ha j hj => by
          by_cases e : j = 0
          · subst e; unfold expAt; simp [hE, ha]
          · exact HN.out j (by omega)
        have HV : Hid (ageB s now 0 ⟨0, eb, ef, ek⟩ = true → expV s now = some ⟨0, eb, ef, ek⟩) := Lib.hid fun ha => expV_at (k := 0) (by omega) HN.out (by unfold expAt; simp [hE, ha])
        have hw : wrap64 (ef + 40) = ef + 40 := by unfold wrap64; omega
        have HE := Lib.hid hE; clear hE HN
        go_wp2_with fail
        refine (firstOf_some A c A2 c2 s 0 ⟨0, eb, ef, ek⟩ x0 wr (HS.out _ K.out.2.2.2.2) (by have := K.out.2.2.2.1; omega) hl HE.out).mono ?_
        rintro r w2 ⟨rfl, hb2⟩
        have K2 := Lib.hid (K.out.step hb2)
        clear K hb2 c0 c1 c2' c3 c4 c5 c6 c7 c8 c9 HE
        go_wp2_with fail
        have K3 : Hid (ExpKept w x0 A c A2 c2 s (w2.alloc (.cells #[.int .i64 0, .int .i64 eb, .int .i64 ef, .string ek] 44))) := Lib.hid (K2.out.step (bal (Below.refl _ _) _))
        have sz : w2.heap.size < (w2.alloc (.cells #[.int .i64 0, .int .i64 eb, .int .i64 ef, .string ek] 44)).heap.size := by simp
        have q := Cells.new w2 [.int .i64 0, .int .i64 eb, .int .i64 ef, .string ek] 44
        have hx2 : x0 + 1 < w2.heap.size := K2.out.2.2.2.1
        clear K2
        generalize w2.alloc (.cells #[.int .i64 0, .int .i64 eb, .int .i64 ef, .string ek] 44) = W3 at *
        generalize w2.heap.size = z at *
        have hk : W3.cell? ⟨1, 0, none⟩ = some (.int .i64 40) := (HP.out _ K3.out.2.2.2.2).2.1 0 (by omega)
        obtain ⟨q0, q1, q2, q3⟩ : W3.cell? ⟨z, 0, none⟩ = some (.int .i64 0) ∧ W3.cell? ⟨z, 1, none⟩ = some (.int .i64 eb) ∧ W3.cell? ⟨z, 2, none⟩ = some (.int .i64 ef) ∧ W3.cell? ⟨z, 3, none⟩ = some (.string ek) := ⟨q 0 _ rfl, q 1 _ rfl, q 2 _ rfl, q 3 _ rfl⟩
        have Q := Lib.hid q; clear q
        by_cases hage : ef + 40 ≤ now
        rotate_left
        · have dd : decide (ef + 40 ≤ now) = false := by simpa using hage
          have HA2 := Lib.hid (HA.out (by unfold ageB; show (decide (ef + 40 ≤ now) && _) = false; rw [dd]; rfl))
          clear hage HA HV
          go_quiet (fail)
          go_wp2_with fail
          go_roundw
          case rel => exact ⟨1, by omega, rfl, HA2, Lib.hid (K3.out.step (bdrewB (Below.refl _ _) _))⟩
          case measure => simp [intOf]
        have dd : decide (ef + 40 ≤ now) = true := by simpa using hage
        have HAG : Hid (∀ b, upB s 0 ⟨0, eb, ef, ek⟩ = b → ageB s now 0 ⟨0, eb, ef, ek⟩ = b) := Lib.hid fun b hb => by unfold ageB; show (decide (ef + 40 ≤ now) && _) = b; rw [dd, hb]; rfl
        clear hage
        have HWd := Lib.hid (show decide (IntKind.i64.wrap (ef + 40) ≤ now) = true from by rw [show IntKind.i64.wrap (ef + 40) = ef + 40 from by rw [IntKind.wrap_i64]; omega]; exact dd)
        have CS := K3.out.1.ten
        have CZ := hk
        clear q0 q1 q2 q3 hk
        refine wp_region_noPanic ?_
        refine wp_region_held_drew (S := (fun w' => (w'.cell? ⟨x0, 0, none⟩ = some (.int .i64 s.sq) ∧ w'.cell? ⟨x0, 1, none⟩ = some (.int .i64 s.fe) ∧ w'.cell? ⟨x0, 2, none⟩ = some (.slice A s.ents.length c) ∧ w'.cell? ⟨x0, 3, none⟩ = some (.slice A2 s.tmbs.length c2) ∧ w'.cell? ⟨x0, 4, none⟩ = some (.int .i64 s.lo.a) ∧ w'.cell? ⟨x0, 5, none⟩ = some (.int .i64 s.lo.b) ∧ w'.cell? ⟨x0, 6, none⟩ = some (.int .i64 s.lo.c) ∧ w'.cell? ⟨x0, 7, none⟩ = some (.int .i64 s.hi.a) ∧ w'.cell? ⟨x0, 8, none⟩ = some (.int .i64 s.hi.b) ∧ w'.cell? ⟨x0, 9, none⟩ = some (.int .i64 s.hi.c)) ∧ w'.cell? ⟨1, 0, none⟩ = some (.int .i64 40) ∧ w'.cell? ⟨z, 0, none⟩ = some (.int .i64 0) ∧ w'.cell? ⟨z, 1, none⟩ = some (.int .i64 eb) ∧ w'.cell? ⟨z, 2, none⟩ = some (.int .i64 ef) ∧ w'.cell? ⟨z, 3, none⟩ = some (.string ek))) (by kernel_rfl) (⟨CS, CZ, Q.out 0 _ rfl, Q.out 1 _ rfl, Q.out 2 _ rfl, Q.out 3 _ rfl⟩) (fun hHeld => ?_)
        refine wpAnyH_take (i := 0) (oi := { dst := some 29, op := Op.move (Operand.tmp 9), type := 4, pos := "l07_plan.go:39", after := #[], guard := none }) (v := ?vb0) rfl (by kernel_rfl) (by kernel_rfl) (by kernel_rfl) (fun _ _ _ h => h) (Or.inl ⟨by rfl, ?hyb0⟩) (by assumption) ?restb0
        case hyb0 => intro w hSw; (try dsimp only at hSw); (obtain ⟨⟨q0, q1, q2, q3, q4, q5, q6, q7, q8, q9⟩, qk, p0, p1, p2, p3⟩ := hSw); (first | (go_simp; done) | (go_simp; with_reducible rfl) | (with_reducible rfl))
        try simp only [Act.put, List.setIfInBounds_toArray, List.set_cons_zero, List.set_cons_succ]
        refine wpAnyH_take (i := 1) (oi := { dst := some 30, op := Op.move (Operand.tmp 29), type := 4, pos := "l07_plan.go:39", after := #[{ on := 0, ground := Ground.data }], guard := none }) (v := ?vb1) rfl (by kernel_rfl) (by kernel_rfl) (by kernel_rfl) (fun _ _ _ h => h) (Or.inl ⟨by rfl, ?hyb1⟩) (by assumption) ?restb1
        case hyb1 => intro w hSw; (try dsimp only at hSw); (obtain ⟨⟨q0, q1, q2, q3, q4, q5, q6, q7, q8, q9⟩, qk, p0, p1, p2, p3⟩ := hSw); (first | (go_simp; done) | (go_simp; with_reducible rfl) | (with_reducible rfl))
        try simp only [Act.put, List.setIfInBounds_toArray, List.set_cons_zero, List.set_cons_succ]
        refine wpAnyH_take (i := 2) (oi := { dst := some 31, op := Op.fieldAddr 44 (Operand.tmp 8) 2, type := 0, pos := "l07_plan.go:39", after := #[{ on := 1, ground := Ground.guard }], guard := some (1, true) }) (v := ?vb2) rfl (by kernel_rfl) (by kernel_rfl) (by kernel_rfl) (fun _ _ _ h => h) (Or.inl ⟨by rfl, ?hyb2⟩) (by assumption) ?restb2
        case hyb2 => intro w hSw; (try dsimp only at hSw); (obtain ⟨⟨q0, q1, q2, q3, q4, q5, q6, q7, q8, q9⟩, qk, p0, p1, p2, p3⟩ := hSw); (first | (go_simp; done) | (go_simp; with_reducible rfl) | (with_reducible rfl))
        try simp only [Act.put, List.setIfInBounds_toArray, List.set_cons_zero, List.set_cons_succ]
        refine wpAnyH_take (i := 3) (oi := { dst := some 32, op := Op.load 3 (Operand.tmp 31), type := 3, pos := "l07_plan.go:39", after := #[{ on := 2, ground := Ground.data }, { on := 1, ground := Ground.guard }], guard := some (1, true) }) (v := ?vb3) rfl (by kernel_rfl) (by kernel_rfl) (by kernel_rfl) (fun _ _ _ h => h) (Or.inl ⟨by rfl, ?hyb3⟩) (by assumption) ?restb3
        case hyb3 => intro w hSw; (try dsimp only at hSw); (obtain ⟨⟨q0, q1, q2, q3, q4, q5, q6, q7, q8, q9⟩, qk, p0, p1, p2, p3⟩ := hSw); (first | (go_simp; done) | (go_simp; with_reducible rfl) | (with_reducible rfl))
        try simp only [Act.put, List.setIfInBounds_toArray, List.set_cons_zero, List.set_cons_succ]
        refine wpAnyH_take (i := 4) (oi := { dst := some 33, op := Op.move (Operand.tmp 7), type := 3, pos := "l07_plan.go:39", after := #[{ on := 1, ground := Ground.guard }], guard := some (1, true) }) (v := ?vb4) rfl (by kernel_rfl) (by kernel_rfl) (by kernel_rfl) (fun _ _ _ h => h) (Or.inl ⟨by rfl, ?hyb4⟩) (by assumption) ?restb4
        case hyb4 => intro w hSw; (try dsimp only at hSw); (obtain ⟨⟨q0, q1, q2, q3, q4, q5, q6, q7, q8, q9⟩, qk, p0, p1, p2, p3⟩ := hSw); (first | (go_simp; done) | (go_simp; with_reducible rfl) | (with_reducible rfl))
        try simp only [Act.put, List.setIfInBounds_toArray, List.set_cons_zero, List.set_cons_succ]
        refine wpAnyH_take (i := 5) (oi := { dst := some 34, op := Op.indexAddr 24 (Operand.global 1) (Operand.tmp 33), type := 0, pos := "l07_plan.go:39", after := #[{ on := 4, ground := Ground.data }, { on := 1, ground := Ground.guard }], guard := some (1, true) }) (v := ?vb5) rfl (by kernel_rfl) (by kernel_rfl) (by kernel_rfl) (fun _ _ _ h => h) (Or.inl ⟨by rfl, ?hyb5⟩) (by assumption) ?restb5
        case hyb5 => intro w hSw; (try dsimp only at hSw); (obtain ⟨⟨q0, q1, q2, q3, q4, q5, q6, q7, q8, q9⟩, qk, p0, p1, p2, p3⟩ := hSw); (first | (go_simp; done) | (go_simp; with_reducible rfl) | (with_reducible rfl))
        try simp only [Act.put, List.setIfInBounds_toArray, List.set_cons_zero, List.set_cons_succ]
        refine wpAnyH_take (i := 6) (oi := { dst := some 35, op := Op.load 3 (Operand.tmp 34), type := 3, pos := "l07_plan.go:39", after := #[{ on := 5, ground := Ground.data }, { on := 1, ground := Ground.guard }], guard := some (1, true) }) (v := ?vb6) rfl (by kernel_rfl) (by kernel_rfl) (by kernel_rfl) (fun _ _ _ h => h) (Or.inl ⟨by rfl, ?hyb6⟩) (by assumption) ?restb6
        case hyb6 => intro w hSw; (try dsimp only at hSw); (obtain ⟨⟨q0, q1, q2, q3, q4, q5, q6, q7, q8, q9⟩, qk, p0, p1, p2, p3⟩ := hSw); (first | (go_simp; done) | (go_simp; with_reducible rfl) | (with_reducible rfl))
        try simp only [Act.put, List.setIfInBounds_toArray, List.set_cons_zero, List.set_cons_succ]
        refine wpAnyH_take (i := 7) (oi := { dst := some 36, op := Op.binOp BinOp.add 3 (Operand.tmp 32) (Operand.tmp 35) 3, type := 3, pos := "l07_plan.go:39", after := #[{ on := 3, ground := Ground.data }, { on := 6, ground := Ground.data }, { on := 1, ground := Ground.guard }], guard := some (1, true) }) (v := ?vb7) rfl (by kernel_rfl) (by kernel_rfl) (by kernel_rfl) (fun _ _ _ h => h) (Or.inl ⟨by rfl, ?hyb7⟩) (by assumption) ?restb7
        case hyb7 => intro w hSw; (try dsimp only at hSw); (obtain ⟨⟨q0, q1, q2, q3, q4, q5, q6, q7, q8, q9⟩, qk, p0, p1, p2, p3⟩ := hSw); (first | (go_simp; done) | (go_simp; with_reducible rfl) | (with_reducible rfl))
        try simp only [Act.put, List.setIfInBounds_toArray, List.set_cons_zero, List.set_cons_succ]
        refine wpAnyH_take (i := 8) (oi := { dst := some 37, op := Op.move (Operand.tmp 1), type := 3, pos := "l07_plan.go:39", after := #[{ on := 1, ground := Ground.guard }], guard := some (1, true) }) (v := ?vb8) rfl (by kernel_rfl) (by kernel_rfl) (by kernel_rfl) (fun _ _ _ h => h) (Or.inl ⟨by rfl, ?hyb8⟩) (by assumption) ?restb8
        case hyb8 => intro w hSw; (try dsimp only at hSw); (obtain ⟨⟨q0, q1, q2, q3, q4, q5, q6, q7, q8, q9⟩, qk, p0, p1, p2, p3⟩ := hSw); (first | (go_simp; done) | (go_simp; with_reducible rfl) | (with_reducible rfl))
        try simp only [Act.put, List.setIfInBounds_toArray, List.set_cons_zero, List.set_cons_succ]
        refine wpAnyH_take (i := 9) (oi := { dst := some 38, op := Op.binOp BinOp.leq 3 (Operand.tmp 36) (Operand.tmp 37) 3, type := 4, pos := "l07_plan.go:39", after := #[{ on := 7, ground := Ground.data }, { on := 8, ground := Ground.data }, { on := 1, ground := Ground.guard }], guard := some (1, true) }) (v := ?vb9) rfl (by kernel_rfl) (by kernel_rfl) (by kernel_rfl) (fun _ _ _ h => h) (Or.inl ⟨by rfl, ?hyb9⟩) (by assumption) ?restb9
        case hyb9 => intro w hSw; (try dsimp only at hSw); (obtain ⟨⟨q0, q1, q2, q3, q4, q5, q6, q7, q8, q9⟩, qk, p0, p1, p2, p3⟩ := hSw); (first | (go_simp; done) | (go_simp; with_reducible rfl) | (with_reducible rfl))
        try simp only [Act.put, List.setIfInBounds_toArray, List.set_cons_zero, List.set_cons_succ]
        rw [HWd.out]
        refine wpAnyH_take (i := 10) (oi := { dst := some 39, op := Op.pick (Operand.tmp 30) (Operand.tmp 38) (Operand.const (Value.bool false)), type := 4, pos := "l07_plan.go:39", after := #[{ on := 1, ground := Ground.data }, { on := 9, ground := Ground.data }], guard := none }) (v := ?vb10) rfl (by kernel_rfl) (by kernel_rfl) (by kernel_rfl) (fun _ _ _ h => h) (Or.inl ⟨by rfl, ?hyb10⟩) (by assumption) ?restb10
        case hyb10 => intro w hSw; (try dsimp only at hSw); (obtain ⟨⟨q0, q1, q2, q3, q4, q5, q6, q7, q8, q9⟩, qk, p0, p1, p2, p3⟩ := hSw); (first | (go_simp; done) | (go_simp; with_reducible rfl) | (with_reducible rfl))
        try simp only [Act.put, List.setIfInBounds_toArray, List.set_cons_zero, List.set_cons_succ]
        refine wpAnyH_take (i := 11) (oi := { dst := some 40, op := Op.move (Operand.tmp 39), type := 4, pos := "l07_plan.go:39", after := #[{ on := 10, ground := Ground.data }, { on := 1, ground := Ground.chain }], guard := none }) (v := ?vb11) rfl (by kernel_rfl) (by kernel_rfl) (by kernel_rfl) (fun _ _ _ h => h) (Or.inl ⟨by rfl, ?hyb11⟩) (by assumption) ?restb11
        case hyb11 => intro w hSw; (try dsimp only at hSw); (obtain ⟨⟨q0, q1, q2, q3, q4, q5, q6, q7, q8, q9⟩, qk, p0, p1, p2, p3⟩ := hSw); (first | (go_simp; done) | (go_simp; with_reducible rfl) | (with_reducible rfl))
        try simp only [Act.put, List.setIfInBounds_toArray, List.set_cons_zero, List.set_cons_succ]
        refine wpAnyH_take (i := 12) (oi := { dst := some 41, op := Op.load 33 (Operand.tmp 2), type := 33, pos := "l07_plan.go:39", after := #[{ on := 11, ground := Ground.guard }], guard := some (11, true) }) (v := ?vb12) rfl (by kernel_rfl) (by kernel_rfl) (by kernel_rfl) (fun _ _ _ h => h) (Or.inl ⟨by rfl, ?hyb12⟩) (by assumption) ?restb12
        case hyb12 => intro w hSw; (try dsimp only at hSw); (obtain ⟨⟨q0, q1, q2, q3, q4, q5, q6, q7, q8, q9⟩, qk, p0, p1, p2, p3⟩ := hSw); (first | (go_simp; done) | (go_simp; with_reducible rfl) | (with_reducible rfl))
        try simp only [Act.put, List.setIfInBounds_toArray, List.set_cons_zero, List.set_cons_succ]
        refine wpAnyH_take (i := 13) (oi := { dst := some 42, op := Op.load 44 (Operand.tmp 8), type := 44, pos := "l07_plan.go:39", after := #[{ on := 11, ground := Ground.guard }], guard := some (11, true) }) (v := ?vb13) rfl (by kernel_rfl) (by kernel_rfl) (by kernel_rfl) (fun _ _ _ h => h) (Or.inl ⟨by rfl, ?hyb13⟩) (by assumption) ?restb13
        case hyb13 => intro w hSw; (try dsimp only at hSw); (obtain ⟨⟨q0, q1, q2, q3, q4, q5, q6, q7, q8, q9⟩, qk, p0, p1, p2, p3⟩ := hSw); (first | (go_simp; done) | (go_simp; with_reducible rfl) | (with_reducible rfl))
        try simp only [Act.put, List.setIfInBounds_toArray, List.set_cons_zero, List.set_cons_succ]
        refine wpAnyH_ready (rs := [14]) (by kernel_rfl) (by simp) ?_
        refine AllReadyH.cons (o := { dst := some 43, op := Op.call { callee := Callee.value (Operand.func 54), args := #[Operand.tmp 41, Operand.tmp 42], argTypes := #[33, 44] }, type := 4, pos := "l07_plan.go:39", after := #[{ on := 12, ground := Ground.data }, { on := 13, ground := Ground.data }, { on := 11, ground := Ground.chain }, { on := 11, ground := Ground.guard }], guard := some (11, true) }) rfl (fun K hK => ?_) AllReadyH.nil
        go_simp
        refine (rolledUp_0 A c A2 c2 s eb ef ek _).mono ?_
        rintro r w4 ⟨rfl, hb4'⟩
        have hb4 : Below W3.heap.size W3 w4 := (Below.refl _ _).drew.trans hb4'
        clear hb4'
        have K4 := Lib.hid (K3.out.step hb4)
        have Q4 := Lib.hid (Q.out.below hb4 sz)
        go_wp2_with fail
        refine hK.out _ _ (⟨K4.out.1.ten, (HP.out _ K4.out.2.2.2.2).2.1 0 (by omega), Q4.out 0 _ rfl, Q4.out 1 _ rfl, Q4.out 2 _ rfl, Q4.out 3 _ rfl⟩) (fun hHeld => ?_)
        clear hK K
        try simp only [Act.put, List.setIfInBounds_toArray, List.set_cons_zero, List.set_cons_succ]
        refine wpAnyH_take (i := 15) (oi := { dst := some 44, op := Op.pick (Operand.tmp 40) (Operand.tmp 43) (Operand.const (Value.bool false)), type := 4, pos := "l07_plan.go:39", after := #[{ on := 11, ground := Ground.data }, { on := 14, ground := Ground.data }], guard := none }) (v := ?vb15) rfl (by kernel_rfl) (by kernel_rfl) (by kernel_rfl) (fun _ _ _ h => h) (Or.inl ⟨by rfl, ?hyb15⟩) (by assumption) ?restb15
        case hyb15 => intro w hSw; (try dsimp only at hSw); (obtain ⟨⟨q0, q1, q2, q3, q4, q5, q6, q7, q8, q9⟩, qk, p0, p1, p2, p3⟩ := hSw); (first | (go_simp; done) | (go_simp; with_reducible rfl) | (with_reducible rfl))
        try simp only [Act.put, List.setIfInBounds_toArray, List.set_cons_zero, List.set_cons_succ]
        refine wpAnyH_done (by kernel_rfl) ?_ _
        refine NoPanic.normal ?_
        clear hHeld CS CZ hb4
        cases hup : upB s 0 ⟨0, eb, ef, ek⟩
        · have HA2 := Lib.hid (HA.out (HAG.out _ hup))
          clear HA HV HAG hup
          go_wp2_with fail
          go_roundw
          case rel => exact ⟨1, by omega, rfl, HA2, K4⟩
          case measure => simp [intOf]
        · have hv := HV.out (HAG.out _ hup)
          have HVV := Lib.hid hv
          clear HA HV HAG hup hv
          obtain ⟨q0, q1, q2, q3⟩ : w4.cell? ⟨z, 0, none⟩ = some (.int .i64 0) ∧ w4.cell? ⟨z, 1, none⟩ = some (.int .i64 eb) ∧ w4.cell? ⟨z, 2, none⟩ = some (.int .i64 ef) ∧ w4.cell? ⟨z, 3, none⟩ = some (.string ek) := ⟨Q4.out 0 _ rfl, Q4.out 1 _ rfl, Q4.out 2 _ rfl, Q4.out 3 _ rfl⟩
          obtain ⟨z0, z1, z2, z3, f0⟩ := K4.out.zero
          go_wp2
          refine bodyPost_ret (v := .tuple #[.agg #[.int .i64 0, .int .i64 eb, .int .i64 ef, .string ek], .bool true, .int .i64 0]) (by simp [results, Tryd.results20, go_sem, *]) rfl (FIN.out _ _ HVV.out (K4.out.fin _ _ _ _))
    · obtain ⟨c0, c1, c2', c3, c4, c5, c6, c7, c8, c9⟩ := K.out.1.ten
      rcases hE : firstE s.ents 1 with _ | e
      · have HA : Hid (∀ j, j < 2 → expAt s now j = none) := Lib.hid fun j hj => by
          by_cases e : j = 1
          · subst e; unfold expAt; simp [hE]
          · exact HN.out j (by omega)
        have HE := Lib.hid hE; clear hE HN
        go_wp2_with fail
        refine (firstOf_none A c A2 c2 s 1 x0 wr (HS.out _ K.out.2.2.2.2) (by have := K.out.2.2.2.1; omega) hl HE.out).mono ?_
        rintro r w2 ⟨rfl, hb2⟩
        have K2 := Lib.hid (K.out.step hb2)
        clear K hb2 c0 c1 c2' c3 c4 c5 c6 c7 c8 c9
        go_wp2_with fail
        have K3 : Hid (ExpKept w x0 A c A2 c2 s (w2.alloc (.cells #[.int .i64 0, .int .i64 0, .int .i64 0, .string ⟨#[]⟩] 44))) := Lib.hid (K2.out.step (bal (Below.refl _ _) _))
        go_quiet (fail)
        go_wp2_with fail
        go_roundw
        case rel => exact ⟨2, by omega, rfl, HA, Lib.hid (K3.out.step (bdrewB (Below.refl _ _) _))⟩
        case measure => simp [intOf]
      · have hfi := HFI.out _ e hE
        obtain ⟨et, eb, ef, ek⟩ := e
        obtain ⟨het, hf0, hf1⟩ : et = 1 ∧ 0 ≤ ef ∧ ef ≤ 100000 := hfi
        subst het
        have HA : Hid (ageB s now 1 ⟨1, eb, ef, ek⟩ = false → ∀ j, j < 2 → expAt s now j = none) := Lib.hid fun ha j hj => by
          by_cases e : j = 1
          · subst e; unfold expAt; simp [hE, ha]
          · exact HN.out j (by omega)
        have HV : Hid (ageB s now 1 ⟨1, eb, ef, ek⟩ = true → expV s now = some ⟨1, eb, ef, ek⟩) := Lib.hid fun ha => expV_at (k := 1) (by omega) HN.out (by unfold expAt; simp [hE, ha])
        have hw : wrap64 (ef + 100) = ef + 100 := by unfold wrap64; omega
        have HE := Lib.hid hE; clear hE HN
        go_wp2_with fail
        refine (firstOf_some A c A2 c2 s 1 ⟨1, eb, ef, ek⟩ x0 wr (HS.out _ K.out.2.2.2.2) (by have := K.out.2.2.2.1; omega) hl HE.out).mono ?_
        rintro r w2 ⟨rfl, hb2⟩
        have K2 := Lib.hid (K.out.step hb2)
        clear K hb2 c0 c1 c2' c3 c4 c5 c6 c7 c8 c9 HE
        go_wp2_with fail
        have K3 : Hid (ExpKept w x0 A c A2 c2 s (w2.alloc (.cells #[.int .i64 1, .int .i64 eb, .int .i64 ef, .string ek] 44))) := Lib.hid (K2.out.step (bal (Below.refl _ _) _))
        have sz : w2.heap.size < (w2.alloc (.cells #[.int .i64 1, .int .i64 eb, .int .i64 ef, .string ek] 44)).heap.size := by simp
        have q := Cells.new w2 [.int .i64 1, .int .i64 eb, .int .i64 ef, .string ek] 44
        have hx2 : x0 + 1 < w2.heap.size := K2.out.2.2.2.1
        clear K2
        generalize w2.alloc (.cells #[.int .i64 1, .int .i64 eb, .int .i64 ef, .string ek] 44) = W3 at *
        generalize w2.heap.size = z at *
        have hk : W3.cell? ⟨1, 1, none⟩ = some (.int .i64 100) := (HP.out _ K3.out.2.2.2.2).2.1 1 (by omega)
        obtain ⟨q0, q1, q2, q3⟩ : W3.cell? ⟨z, 0, none⟩ = some (.int .i64 1) ∧ W3.cell? ⟨z, 1, none⟩ = some (.int .i64 eb) ∧ W3.cell? ⟨z, 2, none⟩ = some (.int .i64 ef) ∧ W3.cell? ⟨z, 3, none⟩ = some (.string ek) := ⟨q 0 _ rfl, q 1 _ rfl, q 2 _ rfl, q 3 _ rfl⟩
        have Q := Lib.hid q; clear q
        by_cases hage : ef + 100 ≤ now
        rotate_left
        · have dd : decide (ef + 100 ≤ now) = false := by simpa using hage
          have HA2 := Lib.hid (HA.out (by unfold ageB; show (decide (ef + 100 ≤ now) && _) = false; rw [dd]; rfl))
          clear hage HA HV
          go_quiet (fail)
          go_wp2_with fail
          go_roundw
          case rel => exact ⟨2, by omega, rfl, HA2, Lib.hid (K3.out.step (bdrewB (Below.refl _ _) _))⟩
          case measure => simp [intOf]
        have dd : decide (ef + 100 ≤ now) = true := by simpa using hage
        have HAG : Hid (∀ b, upB s 1 ⟨1, eb, ef, ek⟩ = b → ageB s now 1 ⟨1, eb, ef, ek⟩ = b) := Lib.hid fun b hb => by unfold ageB; show (decide (ef + 100 ≤ now) && _) = b; rw [dd, hb]; rfl
        clear hage
        have HWd := Lib.hid (show decide (IntKind.i64.wrap (ef + 100) ≤ now) = true from by rw [show IntKind.i64.wrap (ef + 100) = ef + 100 from by rw [IntKind.wrap_i64]; omega]; exact dd)
        have CS := K3.out.1.ten
        have CZ := hk
        clear q0 q1 q2 q3 hk
        refine wp_region_noPanic ?_
        refine wp_region_held_drew (S := (fun w' => (w'.cell? ⟨x0, 0, none⟩ = some (.int .i64 s.sq) ∧ w'.cell? ⟨x0, 1, none⟩ = some (.int .i64 s.fe) ∧ w'.cell? ⟨x0, 2, none⟩ = some (.slice A s.ents.length c) ∧ w'.cell? ⟨x0, 3, none⟩ = some (.slice A2 s.tmbs.length c2) ∧ w'.cell? ⟨x0, 4, none⟩ = some (.int .i64 s.lo.a) ∧ w'.cell? ⟨x0, 5, none⟩ = some (.int .i64 s.lo.b) ∧ w'.cell? ⟨x0, 6, none⟩ = some (.int .i64 s.lo.c) ∧ w'.cell? ⟨x0, 7, none⟩ = some (.int .i64 s.hi.a) ∧ w'.cell? ⟨x0, 8, none⟩ = some (.int .i64 s.hi.b) ∧ w'.cell? ⟨x0, 9, none⟩ = some (.int .i64 s.hi.c)) ∧ w'.cell? ⟨1, 1, none⟩ = some (.int .i64 100) ∧ w'.cell? ⟨z, 0, none⟩ = some (.int .i64 1) ∧ w'.cell? ⟨z, 1, none⟩ = some (.int .i64 eb) ∧ w'.cell? ⟨z, 2, none⟩ = some (.int .i64 ef) ∧ w'.cell? ⟨z, 3, none⟩ = some (.string ek))) (by kernel_rfl) (⟨CS, CZ, Q.out 0 _ rfl, Q.out 1 _ rfl, Q.out 2 _ rfl, Q.out 3 _ rfl⟩) (fun hHeld => ?_)
        refine wpAnyH_take (i := 0) (oi := { dst := some 29, op := Op.move (Operand.tmp 9), type := 4, pos := "l07_plan.go:39", after := #[], guard := none }) (v := ?vc0) rfl (by kernel_rfl) (by kernel_rfl) (by kernel_rfl) (fun _ _ _ h => h) (Or.inl ⟨by rfl, ?hyc0⟩) (by assumption) ?restc0
        case hyc0 => intro w hSw; (try dsimp only at hSw); (obtain ⟨⟨q0, q1, q2, q3, q4, q5, q6, q7, q8, q9⟩, qk, p0, p1, p2, p3⟩ := hSw); (first | (go_simp; done) | (go_simp; with_reducible rfl) | (with_reducible rfl))
        try simp only [Act.put, List.setIfInBounds_toArray, List.set_cons_zero, List.set_cons_succ]
        refine wpAnyH_take (i := 1) (oi := { dst := some 30, op := Op.move (Operand.tmp 29), type := 4, pos := "l07_plan.go:39", after := #[{ on := 0, ground := Ground.data }], guard := none }) (v := ?vc1) rfl (by kernel_rfl) (by kernel_rfl) (by kernel_rfl) (fun _ _ _ h => h) (Or.inl ⟨by rfl, ?hyc1⟩) (by assumption) ?restc1
        case hyc1 => intro w hSw; (try dsimp only at hSw); (obtain ⟨⟨q0, q1, q2, q3, q4, q5, q6, q7, q8, q9⟩, qk, p0, p1, p2, p3⟩ := hSw); (first | (go_simp; done) | (go_simp; with_reducible rfl) | (with_reducible rfl))
        try simp only [Act.put, List.setIfInBounds_toArray, List.set_cons_zero, List.set_cons_succ]
        refine wpAnyH_take (i := 2) (oi := { dst := some 31, op := Op.fieldAddr 44 (Operand.tmp 8) 2, type := 0, pos := "l07_plan.go:39", after := #[{ on := 1, ground := Ground.guard }], guard := some (1, true) }) (v := ?vc2) rfl (by kernel_rfl) (by kernel_rfl) (by kernel_rfl) (fun _ _ _ h => h) (Or.inl ⟨by rfl, ?hyc2⟩) (by assumption) ?restc2
        case hyc2 => intro w hSw; (try dsimp only at hSw); (obtain ⟨⟨q0, q1, q2, q3, q4, q5, q6, q7, q8, q9⟩, qk, p0, p1, p2, p3⟩ := hSw); (first | (go_simp; done) | (go_simp; with_reducible rfl) | (with_reducible rfl))
        try simp only [Act.put, List.setIfInBounds_toArray, List.set_cons_zero, List.set_cons_succ]
        refine wpAnyH_take (i := 3) (oi := { dst := some 32, op := Op.load 3 (Operand.tmp 31), type := 3, pos := "l07_plan.go:39", after := #[{ on := 2, ground := Ground.data }, { on := 1, ground := Ground.guard }], guard := some (1, true) }) (v := ?vc3) rfl (by kernel_rfl) (by kernel_rfl) (by kernel_rfl) (fun _ _ _ h => h) (Or.inl ⟨by rfl, ?hyc3⟩) (by assumption) ?restc3
        case hyc3 => intro w hSw; (try dsimp only at hSw); (obtain ⟨⟨q0, q1, q2, q3, q4, q5, q6, q7, q8, q9⟩, qk, p0, p1, p2, p3⟩ := hSw); (first | (go_simp; done) | (go_simp; with_reducible rfl) | (with_reducible rfl))
        try simp only [Act.put, List.setIfInBounds_toArray, List.set_cons_zero, List.set_cons_succ]
        refine wpAnyH_take (i := 4) (oi := { dst := some 33, op := Op.move (Operand.tmp 7), type := 3, pos := "l07_plan.go:39", after := #[{ on := 1, ground := Ground.guard }], guard := some (1, true) }) (v := ?vc4) rfl (by kernel_rfl) (by kernel_rfl) (by kernel_rfl) (fun _ _ _ h => h) (Or.inl ⟨by rfl, ?hyc4⟩) (by assumption) ?restc4
        case hyc4 => intro w hSw; (try dsimp only at hSw); (obtain ⟨⟨q0, q1, q2, q3, q4, q5, q6, q7, q8, q9⟩, qk, p0, p1, p2, p3⟩ := hSw); (first | (go_simp; done) | (go_simp; with_reducible rfl) | (with_reducible rfl))
        try simp only [Act.put, List.setIfInBounds_toArray, List.set_cons_zero, List.set_cons_succ]
        refine wpAnyH_take (i := 5) (oi := { dst := some 34, op := Op.indexAddr 24 (Operand.global 1) (Operand.tmp 33), type := 0, pos := "l07_plan.go:39", after := #[{ on := 4, ground := Ground.data }, { on := 1, ground := Ground.guard }], guard := some (1, true) }) (v := ?vc5) rfl (by kernel_rfl) (by kernel_rfl) (by kernel_rfl) (fun _ _ _ h => h) (Or.inl ⟨by rfl, ?hyc5⟩) (by assumption) ?restc5
        case hyc5 => intro w hSw; (try dsimp only at hSw); (obtain ⟨⟨q0, q1, q2, q3, q4, q5, q6, q7, q8, q9⟩, qk, p0, p1, p2, p3⟩ := hSw); (first | (go_simp; done) | (go_simp; with_reducible rfl) | (with_reducible rfl))
        try simp only [Act.put, List.setIfInBounds_toArray, List.set_cons_zero, List.set_cons_succ]
        refine wpAnyH_take (i := 6) (oi := { dst := some 35, op := Op.load 3 (Operand.tmp 34), type := 3, pos := "l07_plan.go:39", after := #[{ on := 5, ground := Ground.data }, { on := 1, ground := Ground.guard }], guard := some (1, true) }) (v := ?vc6) rfl (by kernel_rfl) (by kernel_rfl) (by kernel_rfl) (fun _ _ _ h => h) (Or.inl ⟨by rfl, ?hyc6⟩) (by assumption) ?restc6
        case hyc6 => intro w hSw; (try dsimp only at hSw); (obtain ⟨⟨q0, q1, q2, q3, q4, q5, q6, q7, q8, q9⟩, qk, p0, p1, p2, p3⟩ := hSw); (first | (go_simp; done) | (go_simp; with_reducible rfl) | (with_reducible rfl))
        try simp only [Act.put, List.setIfInBounds_toArray, List.set_cons_zero, List.set_cons_succ]
        refine wpAnyH_take (i := 7) (oi := { dst := some 36, op := Op.binOp BinOp.add 3 (Operand.tmp 32) (Operand.tmp 35) 3, type := 3, pos := "l07_plan.go:39", after := #[{ on := 3, ground := Ground.data }, { on := 6, ground := Ground.data }, { on := 1, ground := Ground.guard }], guard := some (1, true) }) (v := ?vc7) rfl (by kernel_rfl) (by kernel_rfl) (by kernel_rfl) (fun _ _ _ h => h) (Or.inl ⟨by rfl, ?hyc7⟩) (by assumption) ?restc7
        case hyc7 => intro w hSw; (try dsimp only at hSw); (obtain ⟨⟨q0, q1, q2, q3, q4, q5, q6, q7, q8, q9⟩, qk, p0, p1, p2, p3⟩ := hSw); (first | (go_simp; done) | (go_simp; with_reducible rfl) | (with_reducible rfl))
        try simp only [Act.put, List.setIfInBounds_toArray, List.set_cons_zero, List.set_cons_succ]
        refine wpAnyH_take (i := 8) (oi := { dst := some 37, op := Op.move (Operand.tmp 1), type := 3, pos := "l07_plan.go:39", after := #[{ on := 1, ground := Ground.guard }], guard := some (1, true) }) (v := ?vc8) rfl (by kernel_rfl) (by kernel_rfl) (by kernel_rfl) (fun _ _ _ h => h) (Or.inl ⟨by rfl, ?hyc8⟩) (by assumption) ?restc8
        case hyc8 => intro w hSw; (try dsimp only at hSw); (obtain ⟨⟨q0, q1, q2, q3, q4, q5, q6, q7, q8, q9⟩, qk, p0, p1, p2, p3⟩ := hSw); (first | (go_simp; done) | (go_simp; with_reducible rfl) | (with_reducible rfl))
        try simp only [Act.put, List.setIfInBounds_toArray, List.set_cons_zero, List.set_cons_succ]
        refine wpAnyH_take (i := 9) (oi := { dst := some 38, op := Op.binOp BinOp.leq 3 (Operand.tmp 36) (Operand.tmp 37) 3, type := 4, pos := "l07_plan.go:39", after := #[{ on := 7, ground := Ground.data }, { on := 8, ground := Ground.data }, { on := 1, ground := Ground.guard }], guard := some (1, true) }) (v := ?vc9) rfl (by kernel_rfl) (by kernel_rfl) (by kernel_rfl) (fun _ _ _ h => h) (Or.inl ⟨by rfl, ?hyc9⟩) (by assumption) ?restc9
        case hyc9 => intro w hSw; (try dsimp only at hSw); (obtain ⟨⟨q0, q1, q2, q3, q4, q5, q6, q7, q8, q9⟩, qk, p0, p1, p2, p3⟩ := hSw); (first | (go_simp; done) | (go_simp; with_reducible rfl) | (with_reducible rfl))
        try simp only [Act.put, List.setIfInBounds_toArray, List.set_cons_zero, List.set_cons_succ]
        rw [HWd.out]
        refine wpAnyH_take (i := 10) (oi := { dst := some 39, op := Op.pick (Operand.tmp 30) (Operand.tmp 38) (Operand.const (Value.bool false)), type := 4, pos := "l07_plan.go:39", after := #[{ on := 1, ground := Ground.data }, { on := 9, ground := Ground.data }], guard := none }) (v := ?vc10) rfl (by kernel_rfl) (by kernel_rfl) (by kernel_rfl) (fun _ _ _ h => h) (Or.inl ⟨by rfl, ?hyc10⟩) (by assumption) ?restc10
        case hyc10 => intro w hSw; (try dsimp only at hSw); (obtain ⟨⟨q0, q1, q2, q3, q4, q5, q6, q7, q8, q9⟩, qk, p0, p1, p2, p3⟩ := hSw); (first | (go_simp; done) | (go_simp; with_reducible rfl) | (with_reducible rfl))
        try simp only [Act.put, List.setIfInBounds_toArray, List.set_cons_zero, List.set_cons_succ]
        refine wpAnyH_take (i := 11) (oi := { dst := some 40, op := Op.move (Operand.tmp 39), type := 4, pos := "l07_plan.go:39", after := #[{ on := 10, ground := Ground.data }, { on := 1, ground := Ground.chain }], guard := none }) (v := ?vc11) rfl (by kernel_rfl) (by kernel_rfl) (by kernel_rfl) (fun _ _ _ h => h) (Or.inl ⟨by rfl, ?hyc11⟩) (by assumption) ?restc11
        case hyc11 => intro w hSw; (try dsimp only at hSw); (obtain ⟨⟨q0, q1, q2, q3, q4, q5, q6, q7, q8, q9⟩, qk, p0, p1, p2, p3⟩ := hSw); (first | (go_simp; done) | (go_simp; with_reducible rfl) | (with_reducible rfl))
        try simp only [Act.put, List.setIfInBounds_toArray, List.set_cons_zero, List.set_cons_succ]
        refine wpAnyH_take (i := 12) (oi := { dst := some 41, op := Op.load 33 (Operand.tmp 2), type := 33, pos := "l07_plan.go:39", after := #[{ on := 11, ground := Ground.guard }], guard := some (11, true) }) (v := ?vc12) rfl (by kernel_rfl) (by kernel_rfl) (by kernel_rfl) (fun _ _ _ h => h) (Or.inl ⟨by rfl, ?hyc12⟩) (by assumption) ?restc12
        case hyc12 => intro w hSw; (try dsimp only at hSw); (obtain ⟨⟨q0, q1, q2, q3, q4, q5, q6, q7, q8, q9⟩, qk, p0, p1, p2, p3⟩ := hSw); (first | (go_simp; done) | (go_simp; with_reducible rfl) | (with_reducible rfl))
        try simp only [Act.put, List.setIfInBounds_toArray, List.set_cons_zero, List.set_cons_succ]
        refine wpAnyH_take (i := 13) (oi := { dst := some 42, op := Op.load 44 (Operand.tmp 8), type := 44, pos := "l07_plan.go:39", after := #[{ on := 11, ground := Ground.guard }], guard := some (11, true) }) (v := ?vc13) rfl (by kernel_rfl) (by kernel_rfl) (by kernel_rfl) (fun _ _ _ h => h) (Or.inl ⟨by rfl, ?hyc13⟩) (by assumption) ?restc13
        case hyc13 => intro w hSw; (try dsimp only at hSw); (obtain ⟨⟨q0, q1, q2, q3, q4, q5, q6, q7, q8, q9⟩, qk, p0, p1, p2, p3⟩ := hSw); (first | (go_simp; done) | (go_simp; with_reducible rfl) | (with_reducible rfl))
        try simp only [Act.put, List.setIfInBounds_toArray, List.set_cons_zero, List.set_cons_succ]
        refine wpAnyH_ready (rs := [14]) (by kernel_rfl) (by simp) ?_
        refine AllReadyH.cons (o := { dst := some 43, op := Op.call { callee := Callee.value (Operand.func 54), args := #[Operand.tmp 41, Operand.tmp 42], argTypes := #[33, 44] }, type := 4, pos := "l07_plan.go:39", after := #[{ on := 12, ground := Ground.data }, { on := 13, ground := Ground.data }, { on := 11, ground := Ground.chain }, { on := 11, ground := Ground.guard }], guard := some (11, true) }) rfl (fun K hK => ?_) AllReadyH.nil
        go_simp
        refine (rolledUp_1 A c A2 c2 s eb ef ek _).mono ?_
        rintro r w4 ⟨rfl, hb4'⟩
        have hb4 : Below W3.heap.size W3 w4 := (Below.refl _ _).drew.trans hb4'
        clear hb4'
        have K4 := Lib.hid (K3.out.step hb4)
        have Q4 := Lib.hid (Q.out.below hb4 sz)
        go_wp2_with fail
        refine hK.out _ _ (⟨K4.out.1.ten, (HP.out _ K4.out.2.2.2.2).2.1 1 (by omega), Q4.out 0 _ rfl, Q4.out 1 _ rfl, Q4.out 2 _ rfl, Q4.out 3 _ rfl⟩) (fun hHeld => ?_)
        clear hK K
        try simp only [Act.put, List.setIfInBounds_toArray, List.set_cons_zero, List.set_cons_succ]
        refine wpAnyH_take (i := 15) (oi := { dst := some 44, op := Op.pick (Operand.tmp 40) (Operand.tmp 43) (Operand.const (Value.bool false)), type := 4, pos := "l07_plan.go:39", after := #[{ on := 11, ground := Ground.data }, { on := 14, ground := Ground.data }], guard := none }) (v := ?vc15) rfl (by kernel_rfl) (by kernel_rfl) (by kernel_rfl) (fun _ _ _ h => h) (Or.inl ⟨by rfl, ?hyc15⟩) (by assumption) ?restc15
        case hyc15 => intro w hSw; (try dsimp only at hSw); (obtain ⟨⟨q0, q1, q2, q3, q4, q5, q6, q7, q8, q9⟩, qk, p0, p1, p2, p3⟩ := hSw); (first | (go_simp; done) | (go_simp; with_reducible rfl) | (with_reducible rfl))
        try simp only [Act.put, List.setIfInBounds_toArray, List.set_cons_zero, List.set_cons_succ]
        refine wpAnyH_done (by kernel_rfl) ?_ _
        refine NoPanic.normal ?_
        clear hHeld CS CZ hb4
        cases hup : upB s 1 ⟨1, eb, ef, ek⟩
        · have HA2 := Lib.hid (HA.out (HAG.out _ hup))
          clear HA HV HAG hup
          go_wp2_with fail
          go_roundw
          case rel => exact ⟨2, by omega, rfl, HA2, K4⟩
          case measure => simp [intOf]
        · have hv := HV.out (HAG.out _ hup)
          have HVV := Lib.hid hv
          clear HA HV HAG hup hv
          obtain ⟨q0, q1, q2, q3⟩ : w4.cell? ⟨z, 0, none⟩ = some (.int .i64 1) ∧ w4.cell? ⟨z, 1, none⟩ = some (.int .i64 eb) ∧ w4.cell? ⟨z, 2, none⟩ = some (.int .i64 ef) ∧ w4.cell? ⟨z, 3, none⟩ = some (.string ek) := ⟨Q4.out 0 _ rfl, Q4.out 1 _ rfl, Q4.out 2 _ rfl, Q4.out 3 _ rfl⟩
          obtain ⟨z0, z1, z2, z3, f0⟩ := K4.out.zero
          go_wp2
          refine bodyPost_ret (v := .tuple #[.agg #[.int .i64 1, .int .i64 eb, .int .i64 ef, .string ek], .bool true, .int .i64 0]) (by simp [results, Tryd.results20, go_sem, *]) rfl (FIN.out _ _ HVV.out (K4.out.fin _ _ _ _))
    · obtain ⟨c0, c1, c2', c3, c4, c5, c6, c7, c8, c9⟩ := K.out.1.ten
      rcases hE : firstE s.ents 2 with _ | e
      · have HA : Hid (∀ j, j < 3 → expAt s now j = none) := Lib.hid fun j hj => by
          by_cases e : j = 2
          · subst e; unfold expAt; simp [hE]
          · exact HN.out j (by omega)
        have HE := Lib.hid hE; clear hE HN
        go_wp2_with fail
        refine (firstOf_none A c A2 c2 s 2 x0 wr (HS.out _ K.out.2.2.2.2) (by have := K.out.2.2.2.1; omega) hl HE.out).mono ?_
        rintro r w2 ⟨rfl, hb2⟩
        have K2 := Lib.hid (K.out.step hb2)
        clear K hb2 c0 c1 c2' c3 c4 c5 c6 c7 c8 c9
        go_wp2_with fail
        have K3 : Hid (ExpKept w x0 A c A2 c2 s (w2.alloc (.cells #[.int .i64 0, .int .i64 0, .int .i64 0, .string ⟨#[]⟩] 44))) := Lib.hid (K2.out.step (bal (Below.refl _ _) _))
        go_quiet (fail)
        go_wp2_with fail
        go_roundw
        case rel => exact ⟨3, by omega, rfl, HA, Lib.hid (K3.out.step (bdrewB (Below.refl _ _) _))⟩
        case measure => simp [intOf]
      · have hfi := HFI.out _ e hE
        obtain ⟨et, eb, ef, ek⟩ := e
        obtain ⟨het, hf0, hf1⟩ : et = 2 ∧ 0 ≤ ef ∧ ef ≤ 100000 := hfi
        subst het
        have HA : Hid (ageB s now 2 ⟨2, eb, ef, ek⟩ = false → ∀ j, j < 3 → expAt s now j = none) := Lib.hid fun ha j hj => by
          by_cases e : j = 2
          · subst e; unfold expAt; simp [hE, ha]
          · exact HN.out j (by omega)
        have HV : Hid (ageB s now 2 ⟨2, eb, ef, ek⟩ = true → expV s now = some ⟨2, eb, ef, ek⟩) := Lib.hid fun ha => expV_at (k := 2) (by omega) HN.out (by unfold expAt; simp [hE, ha])
        have hw : wrap64 (ef + 400) = ef + 400 := by unfold wrap64; omega
        have HE := Lib.hid hE; clear hE HN
        go_wp2_with fail
        refine (firstOf_some A c A2 c2 s 2 ⟨2, eb, ef, ek⟩ x0 wr (HS.out _ K.out.2.2.2.2) (by have := K.out.2.2.2.1; omega) hl HE.out).mono ?_
        rintro r w2 ⟨rfl, hb2⟩
        have K2 := Lib.hid (K.out.step hb2)
        clear K hb2 c0 c1 c2' c3 c4 c5 c6 c7 c8 c9 HE
        go_wp2_with fail
        have K3 : Hid (ExpKept w x0 A c A2 c2 s (w2.alloc (.cells #[.int .i64 2, .int .i64 eb, .int .i64 ef, .string ek] 44))) := Lib.hid (K2.out.step (bal (Below.refl _ _) _))
        have sz : w2.heap.size < (w2.alloc (.cells #[.int .i64 2, .int .i64 eb, .int .i64 ef, .string ek] 44)).heap.size := by simp
        have q := Cells.new w2 [.int .i64 2, .int .i64 eb, .int .i64 ef, .string ek] 44
        have hx2 : x0 + 1 < w2.heap.size := K2.out.2.2.2.1
        clear K2
        generalize w2.alloc (.cells #[.int .i64 2, .int .i64 eb, .int .i64 ef, .string ek] 44) = W3 at *
        generalize w2.heap.size = z at *
        have hk : W3.cell? ⟨1, 2, none⟩ = some (.int .i64 400) := (HP.out _ K3.out.2.2.2.2).2.1 2 (by omega)
        obtain ⟨q0, q1, q2, q3⟩ : W3.cell? ⟨z, 0, none⟩ = some (.int .i64 2) ∧ W3.cell? ⟨z, 1, none⟩ = some (.int .i64 eb) ∧ W3.cell? ⟨z, 2, none⟩ = some (.int .i64 ef) ∧ W3.cell? ⟨z, 3, none⟩ = some (.string ek) := ⟨q 0 _ rfl, q 1 _ rfl, q 2 _ rfl, q 3 _ rfl⟩
        have Q := Lib.hid q; clear q
        by_cases hage : ef + 400 ≤ now
        rotate_left
        · have dd : decide (ef + 400 ≤ now) = false := by simpa using hage
          have HA2 := Lib.hid (HA.out (by unfold ageB; show (decide (ef + 400 ≤ now) && _) = false; rw [dd]; rfl))
          clear hage HA HV
          go_quiet (fail)
          go_wp2_with fail
          go_roundw
          case rel => exact ⟨3, by omega, rfl, HA2, Lib.hid (K3.out.step (bdrewB (Below.refl _ _) _))⟩
          case measure => simp [intOf]
        have dd : decide (ef + 400 ≤ now) = true := by simpa using hage
        have HAG : Hid (∀ b, upB s 2 ⟨2, eb, ef, ek⟩ = b → ageB s now 2 ⟨2, eb, ef, ek⟩ = b) := Lib.hid fun b hb => by unfold ageB; show (decide (ef + 400 ≤ now) && _) = b; rw [dd, hb]; rfl
        clear hage
        have HWd := Lib.hid (show decide (IntKind.i64.wrap (ef + 400) ≤ now) = true from by rw [show IntKind.i64.wrap (ef + 400) = ef + 400 from by rw [IntKind.wrap_i64]; omega]; exact dd)
        have CS := K3.out.1.ten
        have CZ := hk
        clear q0 q1 q2 q3 hk
        refine wp_region_noPanic ?_
        refine wp_region_held_drew (S := (fun w' => (w'.cell? ⟨x0, 0, none⟩ = some (.int .i64 s.sq) ∧ w'.cell? ⟨x0, 1, none⟩ = some (.int .i64 s.fe) ∧ w'.cell? ⟨x0, 2, none⟩ = some (.slice A s.ents.length c) ∧ w'.cell? ⟨x0, 3, none⟩ = some (.slice A2 s.tmbs.length c2) ∧ w'.cell? ⟨x0, 4, none⟩ = some (.int .i64 s.lo.a) ∧ w'.cell? ⟨x0, 5, none⟩ = some (.int .i64 s.lo.b) ∧ w'.cell? ⟨x0, 6, none⟩ = some (.int .i64 s.lo.c) ∧ w'.cell? ⟨x0, 7, none⟩ = some (.int .i64 s.hi.a) ∧ w'.cell? ⟨x0, 8, none⟩ = some (.int .i64 s.hi.b) ∧ w'.cell? ⟨x0, 9, none⟩ = some (.int .i64 s.hi.c)) ∧ w'.cell? ⟨1, 2, none⟩ = some (.int .i64 400) ∧ w'.cell? ⟨z, 0, none⟩ = some (.int .i64 2) ∧ w'.cell? ⟨z, 1, none⟩ = some (.int .i64 eb) ∧ w'.cell? ⟨z, 2, none⟩ = some (.int .i64 ef) ∧ w'.cell? ⟨z, 3, none⟩ = some (.string ek))) (by kernel_rfl) (⟨CS, CZ, Q.out 0 _ rfl, Q.out 1 _ rfl, Q.out 2 _ rfl, Q.out 3 _ rfl⟩) (fun hHeld => ?_)
        refine wpAnyH_take (i := 0) (oi := { dst := some 29, op := Op.move (Operand.tmp 9), type := 4, pos := "l07_plan.go:39", after := #[], guard := none }) (v := ?vd0) rfl (by kernel_rfl) (by kernel_rfl) (by kernel_rfl) (fun _ _ _ h => h) (Or.inl ⟨by rfl, ?hyd0⟩) (by assumption) ?restd0
        case hyd0 => intro w hSw; (try dsimp only at hSw); (obtain ⟨⟨q0, q1, q2, q3, q4, q5, q6, q7, q8, q9⟩, qk, p0, p1, p2, p3⟩ := hSw); (first | (go_simp; done) | (go_simp; with_reducible rfl) | (with_reducible rfl))
        try simp only [Act.put, List.setIfInBounds_toArray, List.set_cons_zero, List.set_cons_succ]
        refine wpAnyH_take (i := 1) (oi := { dst := some 30, op := Op.move (Operand.tmp 29), type := 4, pos := "l07_plan.go:39", after := #[{ on := 0, ground := Ground.data }], guard := none }) (v := ?vd1) rfl (by kernel_rfl) (by kernel_rfl) (by kernel_rfl) (fun _ _ _ h => h) (Or.inl ⟨by rfl, ?hyd1⟩) (by assumption) ?restd1
        case hyd1 => intro w hSw; (try dsimp only at hSw); (obtain ⟨⟨q0, q1, q2, q3, q4, q5, q6, q7, q8, q9⟩, qk, p0, p1, p2, p3⟩ := hSw); (first | (go_simp; done) | (go_simp; with_reducible rfl) | (with_reducible rfl))
        try simp only [Act.put, List.setIfInBounds_toArray, List.set_cons_zero, List.set_cons_succ]
        refine wpAnyH_take (i := 2) (oi := { dst := some 31, op := Op.fieldAddr 44 (Operand.tmp 8) 2, type := 0, pos := "l07_plan.go:39", after := #[{ on := 1, ground := Ground.guard }], guard := some (1, true) }) (v := ?vd2) rfl (by kernel_rfl) (by kernel_rfl) (by kernel_rfl) (fun _ _ _ h => h) (Or.inl ⟨by rfl, ?hyd2⟩) (by assumption) ?restd2
        case hyd2 => intro w hSw; (try dsimp only at hSw); (obtain ⟨⟨q0, q1, q2, q3, q4, q5, q6, q7, q8, q9⟩, qk, p0, p1, p2, p3⟩ := hSw); (first | (go_simp; done) | (go_simp; with_reducible rfl) | (with_reducible rfl))
        try simp only [Act.put, List.setIfInBounds_toArray, List.set_cons_zero, List.set_cons_succ]
        refine wpAnyH_take (i := 3) (oi := { dst := some 32, op := Op.load 3 (Operand.tmp 31), type := 3, pos := "l07_plan.go:39", after := #[{ on := 2, ground := Ground.data }, { on := 1, ground := Ground.guard }], guard := some (1, true) }) (v := ?vd3) rfl (by kernel_rfl) (by kernel_rfl) (by kernel_rfl) (fun _ _ _ h => h) (Or.inl ⟨by rfl, ?hyd3⟩) (by assumption) ?restd3
        case hyd3 => intro w hSw; (try dsimp only at hSw); (obtain ⟨⟨q0, q1, q2, q3, q4, q5, q6, q7, q8, q9⟩, qk, p0, p1, p2, p3⟩ := hSw); (first | (go_simp; done) | (go_simp; with_reducible rfl) | (with_reducible rfl))
        try simp only [Act.put, List.setIfInBounds_toArray, List.set_cons_zero, List.set_cons_succ]
        refine wpAnyH_take (i := 4) (oi := { dst := some 33, op := Op.move (Operand.tmp 7), type := 3, pos := "l07_plan.go:39", after := #[{ on := 1, ground := Ground.guard }], guard := some (1, true) }) (v := ?vd4) rfl (by kernel_rfl) (by kernel_rfl) (by kernel_rfl) (fun _ _ _ h => h) (Or.inl ⟨by rfl, ?hyd4⟩) (by assumption) ?restd4
        case hyd4 => intro w hSw; (try dsimp only at hSw); (obtain ⟨⟨q0, q1, q2, q3, q4, q5, q6, q7, q8, q9⟩, qk, p0, p1, p2, p3⟩ := hSw); (first | (go_simp; done) | (go_simp; with_reducible rfl) | (with_reducible rfl))
        try simp only [Act.put, List.setIfInBounds_toArray, List.set_cons_zero, List.set_cons_succ]
        refine wpAnyH_take (i := 5) (oi := { dst := some 34, op := Op.indexAddr 24 (Operand.global 1) (Operand.tmp 33), type := 0, pos := "l07_plan.go:39", after := #[{ on := 4, ground := Ground.data }, { on := 1, ground := Ground.guard }], guard := some (1, true) }) (v := ?vd5) rfl (by kernel_rfl) (by kernel_rfl) (by kernel_rfl) (fun _ _ _ h => h) (Or.inl ⟨by rfl, ?hyd5⟩) (by assumption) ?restd5
        case hyd5 => intro w hSw; (try dsimp only at hSw); (obtain ⟨⟨q0, q1, q2, q3, q4, q5, q6, q7, q8, q9⟩, qk, p0, p1, p2, p3⟩ := hSw); (first | (go_simp; done) | (go_simp; with_reducible rfl) | (with_reducible rfl))
        try simp only [Act.put, List.setIfInBounds_toArray, List.set_cons_zero, List.set_cons_succ]
        refine wpAnyH_take (i := 6) (oi := { dst := some 35, op := Op.load 3 (Operand.tmp 34), type := 3, pos := "l07_plan.go:39", after := #[{ on := 5, ground := Ground.data }, { on := 1, ground := Ground.guard }], guard := some (1, true) }) (v := ?vd6) rfl (by kernel_rfl) (by kernel_rfl) (by kernel_rfl) (fun _ _ _ h => h) (Or.inl ⟨by rfl, ?hyd6⟩) (by assumption) ?restd6
        case hyd6 => intro w hSw; (try dsimp only at hSw); (obtain ⟨⟨q0, q1, q2, q3, q4, q5, q6, q7, q8, q9⟩, qk, p0, p1, p2, p3⟩ := hSw); (first | (go_simp; done) | (go_simp; with_reducible rfl) | (with_reducible rfl))
        try simp only [Act.put, List.setIfInBounds_toArray, List.set_cons_zero, List.set_cons_succ]
        refine wpAnyH_take (i := 7) (oi := { dst := some 36, op := Op.binOp BinOp.add 3 (Operand.tmp 32) (Operand.tmp 35) 3, type := 3, pos := "l07_plan.go:39", after := #[{ on := 3, ground := Ground.data }, { on := 6, ground := Ground.data }, { on := 1, ground := Ground.guard }], guard := some (1, true) }) (v := ?vd7) rfl (by kernel_rfl) (by kernel_rfl) (by kernel_rfl) (fun _ _ _ h => h) (Or.inl ⟨by rfl, ?hyd7⟩) (by assumption) ?restd7
        case hyd7 => intro w hSw; (try dsimp only at hSw); (obtain ⟨⟨q0, q1, q2, q3, q4, q5, q6, q7, q8, q9⟩, qk, p0, p1, p2, p3⟩ := hSw); (first | (go_simp; done) | (go_simp; with_reducible rfl) | (with_reducible rfl))
        try simp only [Act.put, List.setIfInBounds_toArray, List.set_cons_zero, List.set_cons_succ]
        refine wpAnyH_take (i := 8) (oi := { dst := some 37, op := Op.move (Operand.tmp 1), type := 3, pos := "l07_plan.go:39", after := #[{ on := 1, ground := Ground.guard }], guard := some (1, true) }) (v := ?vd8) rfl (by kernel_rfl) (by kernel_rfl) (by kernel_rfl) (fun _ _ _ h => h) (Or.inl ⟨by rfl, ?hyd8⟩) (by assumption) ?restd8
        case hyd8 => intro w hSw; (try dsimp only at hSw); (obtain ⟨⟨q0, q1, q2, q3, q4, q5, q6, q7, q8, q9⟩, qk, p0, p1, p2, p3⟩ := hSw); (first | (go_simp; done) | (go_simp; with_reducible rfl) | (with_reducible rfl))
        try simp only [Act.put, List.setIfInBounds_toArray, List.set_cons_zero, List.set_cons_succ]
        refine wpAnyH_take (i := 9) (oi := { dst := some 38, op := Op.binOp BinOp.leq 3 (Operand.tmp 36) (Operand.tmp 37) 3, type := 4, pos := "l07_plan.go:39", after := #[{ on := 7, ground := Ground.data }, { on := 8, ground := Ground.data }, { on := 1, ground := Ground.guard }], guard := some (1, true) }) (v := ?vd9) rfl (by kernel_rfl) (by kernel_rfl) (by kernel_rfl) (fun _ _ _ h => h) (Or.inl ⟨by rfl, ?hyd9⟩) (by assumption) ?restd9
        case hyd9 => intro w hSw; (try dsimp only at hSw); (obtain ⟨⟨q0, q1, q2, q3, q4, q5, q6, q7, q8, q9⟩, qk, p0, p1, p2, p3⟩ := hSw); (first | (go_simp; done) | (go_simp; with_reducible rfl) | (with_reducible rfl))
        try simp only [Act.put, List.setIfInBounds_toArray, List.set_cons_zero, List.set_cons_succ]
        rw [HWd.out]
        refine wpAnyH_take (i := 10) (oi := { dst := some 39, op := Op.pick (Operand.tmp 30) (Operand.tmp 38) (Operand.const (Value.bool false)), type := 4, pos := "l07_plan.go:39", after := #[{ on := 1, ground := Ground.data }, { on := 9, ground := Ground.data }], guard := none }) (v := ?vd10) rfl (by kernel_rfl) (by kernel_rfl) (by kernel_rfl) (fun _ _ _ h => h) (Or.inl ⟨by rfl, ?hyd10⟩) (by assumption) ?restd10
        case hyd10 => intro w hSw; (try dsimp only at hSw); (obtain ⟨⟨q0, q1, q2, q3, q4, q5, q6, q7, q8, q9⟩, qk, p0, p1, p2, p3⟩ := hSw); (first | (go_simp; done) | (go_simp; with_reducible rfl) | (with_reducible rfl))
        try simp only [Act.put, List.setIfInBounds_toArray, List.set_cons_zero, List.set_cons_succ]
        refine wpAnyH_take (i := 11) (oi := { dst := some 40, op := Op.move (Operand.tmp 39), type := 4, pos := "l07_plan.go:39", after := #[{ on := 10, ground := Ground.data }, { on := 1, ground := Ground.chain }], guard := none }) (v := ?vd11) rfl (by kernel_rfl) (by kernel_rfl) (by kernel_rfl) (fun _ _ _ h => h) (Or.inl ⟨by rfl, ?hyd11⟩) (by assumption) ?restd11
        case hyd11 => intro w hSw; (try dsimp only at hSw); (obtain ⟨⟨q0, q1, q2, q3, q4, q5, q6, q7, q8, q9⟩, qk, p0, p1, p2, p3⟩ := hSw); (first | (go_simp; done) | (go_simp; with_reducible rfl) | (with_reducible rfl))
        try simp only [Act.put, List.setIfInBounds_toArray, List.set_cons_zero, List.set_cons_succ]
        refine wpAnyH_take (i := 12) (oi := { dst := some 41, op := Op.load 33 (Operand.tmp 2), type := 33, pos := "l07_plan.go:39", after := #[{ on := 11, ground := Ground.guard }], guard := some (11, true) }) (v := ?vd12) rfl (by kernel_rfl) (by kernel_rfl) (by kernel_rfl) (fun _ _ _ h => h) (Or.inl ⟨by rfl, ?hyd12⟩) (by assumption) ?restd12
        case hyd12 => intro w hSw; (try dsimp only at hSw); (obtain ⟨⟨q0, q1, q2, q3, q4, q5, q6, q7, q8, q9⟩, qk, p0, p1, p2, p3⟩ := hSw); (first | (go_simp; done) | (go_simp; with_reducible rfl) | (with_reducible rfl))
        try simp only [Act.put, List.setIfInBounds_toArray, List.set_cons_zero, List.set_cons_succ]
        refine wpAnyH_take (i := 13) (oi := { dst := some 42, op := Op.load 44 (Operand.tmp 8), type := 44, pos := "l07_plan.go:39", after := #[{ on := 11, ground := Ground.guard }], guard := some (11, true) }) (v := ?vd13) rfl (by kernel_rfl) (by kernel_rfl) (by kernel_rfl) (fun _ _ _ h => h) (Or.inl ⟨by rfl, ?hyd13⟩) (by assumption) ?restd13
        case hyd13 => intro w hSw; (try dsimp only at hSw); (obtain ⟨⟨q0, q1, q2, q3, q4, q5, q6, q7, q8, q9⟩, qk, p0, p1, p2, p3⟩ := hSw); (first | (go_simp; done) | (go_simp; with_reducible rfl) | (with_reducible rfl))
        try simp only [Act.put, List.setIfInBounds_toArray, List.set_cons_zero, List.set_cons_succ]
        refine wpAnyH_ready (rs := [14]) (by kernel_rfl) (by simp) ?_
        refine AllReadyH.cons (o := { dst := some 43, op := Op.call { callee := Callee.value (Operand.func 54), args := #[Operand.tmp 41, Operand.tmp 42], argTypes := #[33, 44] }, type := 4, pos := "l07_plan.go:39", after := #[{ on := 12, ground := Ground.data }, { on := 13, ground := Ground.data }, { on := 11, ground := Ground.chain }, { on := 11, ground := Ground.guard }], guard := some (11, true) }) rfl (fun K hK => ?_) AllReadyH.nil
        go_simp
        refine (rolledUp_2 A c A2 c2 s eb ef ek _).mono ?_
        rintro r w4 ⟨rfl, hb4'⟩
        have hb4 : Below W3.heap.size W3 w4 := (Below.refl _ _).drew.trans hb4'
        clear hb4'
        have K4 := Lib.hid (K3.out.step hb4)
        have Q4 := Lib.hid (Q.out.below hb4 sz)
        go_wp2_with fail
        refine hK.out _ _ (⟨K4.out.1.ten, (HP.out _ K4.out.2.2.2.2).2.1 2 (by omega), Q4.out 0 _ rfl, Q4.out 1 _ rfl, Q4.out 2 _ rfl, Q4.out 3 _ rfl⟩) (fun hHeld => ?_)
        clear hK K
        try simp only [Act.put, List.setIfInBounds_toArray, List.set_cons_zero, List.set_cons_succ]
        refine wpAnyH_take (i := 15) (oi := { dst := some 44, op := Op.pick (Operand.tmp 40) (Operand.tmp 43) (Operand.const (Value.bool false)), type := 4, pos := "l07_plan.go:39", after := #[{ on := 11, ground := Ground.data }, { on := 14, ground := Ground.data }], guard := none }) (v := ?vd15) rfl (by kernel_rfl) (by kernel_rfl) (by kernel_rfl) (fun _ _ _ h => h) (Or.inl ⟨by rfl, ?hyd15⟩) (by assumption) ?restd15
        case hyd15 => intro w hSw; (try dsimp only at hSw); (obtain ⟨⟨q0, q1, q2, q3, q4, q5, q6, q7, q8, q9⟩, qk, p0, p1, p2, p3⟩ := hSw); (first | (go_simp; done) | (go_simp; with_reducible rfl) | (with_reducible rfl))
        try simp only [Act.put, List.setIfInBounds_toArray, List.set_cons_zero, List.set_cons_succ]
        refine wpAnyH_done (by kernel_rfl) ?_ _
        refine NoPanic.normal ?_
        clear hHeld CS CZ hb4
        cases hup : upB s 2 ⟨2, eb, ef, ek⟩
        · have HA2 := Lib.hid (HA.out (HAG.out _ hup))
          clear HA HV HAG hup
          go_wp2_with fail
          go_roundw
          case rel => exact ⟨3, by omega, rfl, HA2, K4⟩
          case measure => simp [intOf]
        · have hv := HV.out (HAG.out _ hup)
          have HVV := Lib.hid hv
          clear HA HV HAG hup hv
          obtain ⟨q0, q1, q2, q3⟩ : w4.cell? ⟨z, 0, none⟩ = some (.int .i64 2) ∧ w4.cell? ⟨z, 1, none⟩ = some (.int .i64 eb) ∧ w4.cell? ⟨z, 2, none⟩ = some (.int .i64 ef) ∧ w4.cell? ⟨z, 3, none⟩ = some (.string ek) := ⟨Q4.out 0 _ rfl, Q4.out 1 _ rfl, Q4.out 2 _ rfl, Q4.out 3 _ rfl⟩
          obtain ⟨z0, z1, z2, z3, f0⟩ := K4.out.zero
          go_wp2
          refine bodyPost_ret (v := .tuple #[.agg #[.int .i64 2, .int .i64 eb, .int .i64 ef, .string ek], .bool true, .int .i64 0]) (by simp [results, Tryd.results20, go_sem, *]) rfl (FIN.out _ _ HVV.out (K4.out.fin _ _ _ _))
    · have hv := expV_no HN.out
      obtain ⟨z0, z1, z2, z3, f0⟩ := K.out.zero
      go_wp2
      refine bodyPost_ret (v := .tuple #[.agg #[.int .i64 0, .int .i64 0, .int .i64 0, .string ⟨#[]⟩], .bool false, .int .i64 0]) (by simp [results, Tryd.results20, go_sem, *]) rfl (FINZ.out _ hv (K.out.fin _ _ _ _))

end Go.Proofs.YthmpmagajbmpaaaDoor
