/-
  Several texts as one: contracts that the law leans on; each part says what it proves and its conditions.
-/
import Derived.Test.YthmpmagajbmpaaaDoorOrpI
import Derived.Test.YthmpmagajbmpaaaDoorAppG
import Derived.Test.YthmpmagajbmpaaaDoorCutUp
import Derived.Test.YthmpmagajbmpaaaDoorStpS
import Derived.Test.YthmpmagajbmpaaaDoorOpenSl
import Derived.Test.YthmpmagajbmpaaaDoorStrs
import Derived.Test.YthmpmagajbmpaaaDoorDigitsInt
import Derived.Lib.Join
import Derived.Lib.Hide
import Derived.BigQuiet
import Derived.Test.YthmpmagajbmpaaaDoorPuts
import Derived.Test.YthmpmagajbmpaaaDoorAggLaw
import Derived.Test.YthmpmagajbmpaaaDoorTxtB
import Derived.WalkSmall
import Derived.Lib.SmallJoins
import Derived.ChangeVars
import Derived.SevenTiedAt
import Derived.LaidOnce
import Derived.Lib.LaidTab
import Derived.Test.YthmpmagajbmpaaaDoorTie
import Derived.Test.YthmpmagajbmpaaaDoorKeyI
import Derived.Test.YthmpmagajbmpaaaDoorTierA
import Derived.Test.YthmpmagajbmpaaaDoorStt
import Derived.Laws.IdiomArrays

/- Contract of the program's OrphansOf. Conditions: the program's table of paths is as its text lays it; lengths. -/
namespace Go.Proofs.YthmpmagajbmpaaaDoor
open Go.ChangeShapes Go.WideShapes Go.ChangeAt Go.RowKit Go.Deep Go.Joins Go.Maps
set_option linter.unusedVariables false
set_option linter.unusedSimpArgs false

set_option maxRecDepth 100000 in
set_option maxHeartbeats 1000000 in
theorem allOrph_any (x0 y m : Nat) (A : Option Addr) (c : Nat) (A2 : Option Addr) (c2 : Nat) (s : GSt) (Ak : Option Addr) (ck : Nat) (ks : List ByteArray) (B : Nat) (w : World) (h : OrpBox x0 y m A c A2 c2 s w) (hks : StrsAt w B Ak ks) (hB : B ≤ w.heap.size) (hl : ks.length ≤ 4096) (hf : ∀ o ∈ ks, o.size ≤ 1048576) (hp : Paths w) (hz : 2 < w.heap.size) :
    Calls Tryd.prog 57 #[.slice Ak ks.length ck, .func (.func 58) #[] #[.pointer (some ⟨y, 0, none⟩), .pointer (some ⟨x0, 0, none⟩)]] w (NewTxts (ks.filter (orphB s)) w) := by
  have H := Lib.hid h; clear h
  have HK := Lib.hid hks; clear hks
  have HF := Lib.hid hf; clear hf
  have HP : Hid (∀ w', Below w.heap.size w w' → Paths w' ∧ 2 < w'.heap.size) := Lib.hid (fun w' h => ⟨hp.below h hz, Nat.lt_of_lt_of_le hz h.size⟩)
  clear hp
  go_enter Tryd.func57, Tryd.ntmps57
  go_wp2_with fail
  go_loopw [5, 10] (fun v i wr => ∃ (k : Nat) (Av : Option Addr) (cv : Nat), k ≤ ks.length ∧ i = .int .i64 k ∧ v = .slice Av (orphs s ks k).length cv ∧ Hid (OwnSl cxV 1 9 w.heap.size wr (.slice Av (orphs s ks k).length cv) (orphs s ks k)) ∧ Below w.heap.size w wr) (fun _ i _ => ks.length - (intOf i).toNat)
  case atStart => exact ⟨0, none, 0, by omega, rfl, by rw [orphs_zero]; rfl, by rw [orphs_zero]; exact Lib.hid (World.ownsRow_nil _ _ _ _), Below.refl _ _⟩
  case round =>
    obtain ⟨k, Av, cv, hk, rfl, rfl, HO, hb⟩ := hrel
    by_cases hlt : k < ks.length
    · obtain ⟨b1, o1, rfl, hb1, p0⟩ := StrsAt.at_ (Sl.below HK.out hb hB) hlt
      have hfit : ks[k].size ≤ 1048576 := HF.out _ (List.getElem_mem hlt)
      have i1 : (0 : Int) ≤ (k : Int) := by omega
      have i2 : (k : Int) < (ks.length : Int) := by omega
      have HY := Lib.hid (fun h1 => orphs_yes (s := s) hlt h1)
      have HNO := Lib.hid (fun h1 => orphs_no (s := s) hlt h1)
      have hpl := orphs_len s ks k
      generalize ks[k] = key at *
      go_wp2_with fail
      refine (orph1_any x0 y m A c A2 c2 s key wr (H.out.step hb) (by omega) (HP.out _ hb).1 (HP.out _ hb).2).mono ?_
      rintro e w2 ⟨rfl, hb2⟩
      have b2 : Below w.heap.size w w2 := hb.trans (hb2.mono hb.size)
      have HO2 := Lib.hid (HO.out.below hb2)
      clear hb2 HO p0
      cases hob : orphB s key
      · have E := Lib.hid (HNO.out hob)
        clear HY HNO
        go_wp2_with fail
        go_roundw
        case rel => exact ⟨k + 1, Av, cv, by omega, by go_num, by rw [E.out], by rw [E.out]; exact HO2, b2⟩
        case measure => simp [intOf]; omega
      · have E := Lib.hid (HY.out hob)
        clear HY HNO
        generalize orphs s ks k = ps at *
        have sz : w.heap.size ≤ w2.heap.size := b2.size
        have hO4 := HO2.out.below (bal (Below.refl _ w2) (.cells #[.string key] 9))
        have HO4 := Lib.hid hO4; clear hO4
        have HNw := Lib.hid (new_cx w2 key 9)
        have Hb4 := Lib.hid (bal b2 (.cells #[.string key] 9))
        clear HO2
        go_wp2_with (at_builtin; refine wpList_append_sl cxV 1 16 (fun _ => rfl) cxV_one 49 9 _ infoCx rfl (by omega) Tryd.underlying49 rfl _ _ rfl w.heap.size ps [key] (.slice Av ps.length cv) rfl HO4.out (some ⟨w2.heap.size, 0, none⟩) 1 (w2.heap.size + 1) rfl HNw.out (by simp [maxLen]; omega) (by simp; omega) (by simp; omega) ?_; intro v' w5 hO5 hg5 _; obtain ⟨A5, c5, rfl⟩ := hO5.form; have HO5 := Lib.hid hO5; clear hO5; have Hg5 := Lib.hid hg5; clear hg5)
        have hb5 : Below w.heap.size w w5 := Hb4.out.trans (below_of_grown Hg5.out (by simp; omega) (fun g e => (World.ownsRow.lt HO4.out g e).1))
        go_roundw
        case rel => exact ⟨k + 1, A5, c5, by omega, by go_num, by rw [E.out]; simp, by rw [E.out]; exact HO5, hb5⟩
        case measure => simp [intOf]; omega
    · have E := Lib.hid (orphs_all s ks (n := k) (by omega))
      have FIN : Hid (NewTxts (ks.filter (orphB s)) w (.returned (.slice Av (orphs s ks k).length cv)) wr) := Lib.hid (by
        have q := HO.out.sl (fun _ => rfl)
        rw [← E.out]
        exact ⟨Av, cv, rfl, q.1, q.2.1, q.2.2.1, q.2.2.2, hb⟩)
      go_wp2
      go_ret
      exact FIN.out

/-- orphans and a code are answered, in new memory -/
def OrphR (s : GSt) (ks : List ByteArray) (w : World) (e : Ending) (w' : World) : Prop :=
  ∃ (Av : Option Addr) (cv : Nat) (L : List ByteArray) (z : Int), OrphVal s ks L z ∧ e = .returned (.tuple #[.slice Av L.length cv, .int .i64 z]) ∧ StrsAt w' w'.heap.size Av L ∧ Free w' Av ∧ (∀ b, blk Av = some b → w.heap.size ≤ b ∧ b < w'.heap.size) ∧ L.length ≤ cv ∧ Below w.heap.size w w'

theorem OrphR.nil {s : GSt} {ks : List ByteArray} {w w' : World} {z : Int} (h : OrphVal s ks [] z) (hb : Below w.heap.size w w') : OrphR s ks w (.returned (.tuple #[.slice none 0 0, .int .i64 z])) w' :=
  ⟨none, 0, [], z, h, rfl, Sl.nil, fun b e => by simp [blk] at e, fun b e => by simp [blk] at e, Nat.le_refl _, hb⟩

set_option maxRecDepth 100000 in
set_option maxHeartbeats 1000000 in
theorem orphansOf_any (A : Option Addr) (c : Nat) (A2 : Option Addr) (c2 : Nat) (s : GSt) (Ak : Option Addr) (ck : Nat) (ks : List ByteArray) (B : Nat) (w : World) (h : StAt w B A A2 s) (hks : StrsAt w B Ak ks) (hB : B ≤ w.heap.size) (hf : ∀ o ∈ s.ents, o.fit) (hf2 : ∀ o ∈ s.tmbs, o.fit) (hl : s.ents.length ≤ 1048576) (hl2 : s.tmbs.length ≤ 1048576) (hk : ks.length ≤ 1048576) (hkf : ∀ o ∈ ks, o.size ≤ 1048576) (hp : Paths w) (hz : 2 < w.heap.size) :
    Calls Tryd.prog 25 #[.agg #[.int .i64 s.sq, .int .i64 s.fe, .slice A s.ents.length c, .slice A2 s.tmbs.length c2, .int .i64 s.lo.a, .int .i64 s.lo.b, .int .i64 s.lo.c, .int .i64 s.hi.a, .int .i64 s.hi.b, .int .i64 s.hi.c], .slice Ak ks.length ck] w (OrphR s ks w) := by
  have H := Lib.hid h; clear h
  have HK := Lib.hid hks; clear hks
  have Hf := Lib.hid hf; clear hf
  have Hf2 := Lib.hid hf2; clear hf2
  have HKF := Lib.hid hkf; clear hkf
  have HP : Hid (∀ w', Below w.heap.size w w' → Paths w' ∧ 2 < w'.heap.size) := Lib.hid (fun w' h => ⟨hp.below h hz, Nat.lt_of_lt_of_le hz h.size⟩)
  clear hp
  by_cases h4 : 4096 < ks.length
  · have d : decide (4096 < (ks.length : Int)) = true := by simp; omega
    have HV := Lib.hid (show OrphVal s ks [] 2 from Or.inl ⟨h4, rfl, rfl⟩)
    clear h4
    go_enter Tryd.func25, Tryd.ntmps25
    have FIN : Hid (∀ o, OrphR s ks w (.returned (.tuple #[.slice none 0 0, .int .i64 2])) (w.alloc o)) := Lib.hid fun o => OrphR.nil HV.out (bal (Below.refl _ _) _)
    go_wp2
    refine bodyPost_ret (v := .tuple #[.slice none 0 0, .int .i64 2]) (by simp [results, Tryd.results25, go_sem]) rfl (FIN.out _)
  have d : decide (4096 < (ks.length : Int)) = false := by simp; omega
  have H4 : Hid (ks.length ≤ 4096) := Lib.hid (by omega)
  clear h4
  go_enter Tryd.func25, Tryd.ntmps25
  go_wp2_with fail
  have CA : Hid (Cells (w.alloc (.cells #[.int .i64 s.sq, .int .i64 s.fe, .slice A s.ents.length c, .slice A2 s.tmbs.length c2, .int .i64 s.lo.a, .int .i64 s.lo.b, .int .i64 s.lo.c, .int .i64 s.hi.a, .int .i64 s.hi.b, .int .i64 s.hi.c] 33)) w.heap.size 0 [.int .i64 s.sq, .int .i64 s.fe, .slice A s.ents.length c, .slice A2 s.tmbs.length c2, .int .i64 s.lo.a, .int .i64 s.lo.b, .int .i64 s.lo.c, .int .i64 s.hi.a, .int .i64 s.hi.b, .int .i64 s.hi.c]) := Lib.hid (Cells.new w _ _)
  have b0 : Below w.heap.size w (w.alloc (.cells #[.int .i64 s.sq, .int .i64 s.fe, .slice A s.ents.length c, .slice A2 s.tmbs.length c2, .int .i64 s.lo.a, .int .i64 s.lo.b, .int .i64 s.lo.c, .int .i64 s.hi.a, .int .i64 s.hi.b, .int .i64 s.hi.c] 33)) := bal (Below.refl _ _) _
  have s0 : w.heap.size < (w.alloc (.cells #[.int .i64 s.sq, .int .i64 s.fe, .slice A s.ents.length c, .slice A2 s.tmbs.length c2, .int .i64 s.lo.a, .int .i64 s.lo.b, .int .i64 s.lo.c, .int .i64 s.hi.a, .int .i64 s.hi.b, .int .i64 s.hi.c] 33)).heap.size := by simp
  generalize w.alloc (.cells #[.int .i64 s.sq, .int .i64 s.fe, .slice A s.ents.length c, .slice A2 s.tmbs.length c2, .int .i64 s.lo.a, .int .i64 s.lo.b, .int .i64 s.lo.c, .int .i64 s.hi.a, .int .i64 s.hi.b, .int .i64 s.hi.c] 33) = W at *
  generalize hx0 : w.heap.size = x0 at *
  have Hx0 := Lib.hid hx0; clear hx0
  have HS : Hid (∀ w', Below x0 w w' → StAt w' x0 A A2 s) := Lib.hid fun w' hb => (H.out.below hb (by have := Hx0.out; omega)).more (by have := Hx0.out; omega)
  have HKS : Hid (∀ w', Below x0 w w' → StrsAt w' x0 Ak ks) := Lib.hid fun w' hb => Sl.more (Sl.below HK.out hb (by have := Hx0.out; omega)) (by have := Hx0.out; omega)
  clear H HK
  refine (stRight_any A c A2 c2 s x0 W (HS.out _ b0) (by omega) Hf.out Hf2.out hl hl2 (HP.out _ b0).1 (HP.out _ b0).2).mono ?_
  rintro e w1 ⟨bs, hbs, rfl, hb1⟩
  have b1 : Below x0 w w1 := b0.trans (hb1.mono (by omega))
  have C1 := Lib.hid (CA.out.below hb1 s0)
  have s1 : x0 < w1.heap.size := by have := hb1.size; omega
  clear CA hb1 b0 s0
  cases bs
  · have HN := Lib.hid (show ¬ StP s from fun h => by have := hbs.2 h; cases this)
    have FIN : Hid (OrphR s ks w (.returned (.tuple #[.slice none 0 0, .int .i64 1])) w1) := Lib.hid (OrphR.nil (Or.inr (Or.inl ⟨H4.out, HN.out, rfl, rfl⟩)) (by rw [Hx0.out]; exact b1))
    clear hbs
    go_wp2
    refine bodyPost_ret (v := .tuple #[.slice none 0 0, .int .i64 1]) (by simp [results, Tryd.results25, go_sem]) rfl FIN.out
  have HSP := Lib.hid (hbs.1 rfl); clear hbs
  obtain ⟨c0, c1, c2', c3, c4, c5, c6, c7, c8, c9⟩ := C1.out.ten
  go_wp2_with fail
  refine (stKeys_any A c A2 c2 s x0 w1 (HS.out _ b1) (by omega) Hf.out Hf2.out hl hl2).mono ?_
  rintro e w2 ⟨mm, rfl, hts, hmm, hb2⟩
  have b2 : Below x0 w w2 := b1.trans (hb2.mono (by omega))
  have C2 := Lib.hid (C1.out.below hb2 s1)
  have HTS := Lib.hid hts; clear hts
  have s2 : x0 < w2.heap.size := by have := hb2.size; omega
  clear C1 hb2 b1 s1 c0 c1 c2' c3 c4 c5 c6 c7 c8 c9
  go_wp2_with fail
  have BX : Hid (OrpBox x0 w2.heap.size mm A c A2 c2 s (w2.alloc (.cells #[.map (some mm)] 82))) := Lib.hid ⟨C2.out.below (bal (Below.refl _ _) _) s2, by simp [go_sem], HTS.out.below (bal (Below.refl _ _) _), by simp; omega, by simp⟩
  have b3 : Below x0 w (w2.alloc (.cells #[.map (some mm)] 82)) := b2.alloc (by omega) _
  have s3 : x0 ≤ (w2.alloc (.cells #[.map (some mm)] 82)).heap.size := by have := b3.size; have := Hx0.out; omega
  clear C2 HTS
  generalize w2.alloc (.cells #[.map (some mm)] 82) = W3 at *
  refine (allOrph_any x0 w2.heap.size mm A c A2 c2 s Ak ck ks x0 W3 BX.out (HKS.out _ b3) s3 H4.out HKF.out (HP.out _ b3).1 (HP.out _ b3).2).mono ?_
  rintro e w4 ⟨Av, cv, rfl, hst, hfr, hbl, hcv, hb4⟩
  have FIN : Hid (OrphR s ks w (.returned (.tuple #[.slice Av (ks.filter (orphB s)).length cv, .int .i64 0])) w4) := Lib.hid ⟨Av, cv, _, 0, Or.inr (Or.inr ⟨H4.out, HSP.out, rfl, rfl⟩), rfl, hst, hfr, fun b e => ⟨by have := (hbl b e).1; have := Hx0.out; omega, (hbl b e).2⟩, hcv, by rw [Hx0.out]; exact b3.trans (hb4.mono s3)⟩
  clear hst hfr hbl hcv hb4
  go_wp2
  refine bodyPost_ret (v := .tuple #[.slice Av (ks.filter (orphB s)).length cv, .int .i64 0]) (by simp [results, Tryd.results25, go_sem]) rfl FIN.out

end Go.Proofs.YthmpmagajbmpaaaDoor

/- Contract of the model's OrphansOf. Conditions: lengths. -/
namespace Go.Proofs.YthmpmagajbmpaaaDoor
open Go.ChangeShapes Go.WideShapes Go.ChangeAt Go.RowKit Go.Deep Go.Joins Go.Maps
set_option linter.unusedVariables false
set_option linter.unusedSimpArgs false


theorem ownTxt_more {w : World} {v : Value} {xs : List ByteArray} {b c : Nat} (h : OwnSl cxV 1 9 b w v xs) (hc : c ≤ b) : OwnSl cxV 1 9 c w v xs := ⟨h.1, by
  rcases h.2 with h2 | ⟨g, cap, cur, he, hb, hg, h3, h4, h5, h6⟩
  · exact Or.inl h2
  · exact Or.inr ⟨g, cap, cur, he, by omega, hg, h3, h4, h5, h6⟩⟩

theorem keysAll_mem {s : GSt} {key : ByteArray} : key ∈ keysAll s ↔ (∃ k, ∃ h : k < s.ents.length, s.ents[k].key = key) ∨ ∃ k, ∃ h : k < s.tmbs.length, s.tmbs[k].key = key := by
  unfold keysAll keysR
  simp only [List.take_length, List.mem_append, List.mem_reverse, List.mem_map]
  constructor
  · rintro (⟨t, ht, e⟩ | ⟨t, ht, e⟩)
    · obtain ⟨k, hk, rfl⟩ := List.getElem_of_mem ht; exact Or.inr ⟨k, hk, e⟩
    · obtain ⟨k, hk, rfl⟩ := List.getElem_of_mem ht; exact Or.inl ⟨k, hk, e⟩
  · rintro (⟨k, hk, e⟩ | ⟨k, hk, e⟩)
    · exact Or.inr ⟨_, List.getElem_mem hk, e⟩
    · exact Or.inl ⟨_, List.getElem_mem hk, e⟩

set_option maxRecDepth 100000 in
set_option maxHeartbeats 1000000 in
theorem l06Named_any (A : Option Addr) (c : Nat) (A2 : Option Addr) (c2 : Nat) (s : GSt) (key : ByteArray) (B : Nat) (w : World) (h : StAt w B A A2 s) (hB : B ≤ w.heap.size) (hl : s.ents.length ≤ 1048576) (hl2 : s.tmbs.length ≤ 1048576) :
    Calls Tryd.prog 83 #[.agg #[.int .i64 s.sq, .int .i64 s.fe, .slice A s.ents.length c, .slice A2 s.tmbs.length c2, .int .i64 s.lo.a, .int .i64 s.lo.b, .int .i64 s.lo.c, .int .i64 s.hi.a, .int .i64 s.hi.b, .int .i64 s.hi.c], .string key] w fun e w' => e = .returned (.bool (memB key (keysAll s))) ∧ Below w.heap.size w w' := by
  have H := Lib.hid h; clear h
  have HM := Lib.hid (keysAll_mem (s := s) (key := key))
  go_enter Tryd.func83, Tryd.ntmps83
  go_wp2_with fail
  have CA : Hid (Cells (w.alloc (.cells #[.int .i64 s.sq, .int .i64 s.fe, .slice A s.ents.length c, .slice A2 s.tmbs.length c2, .int .i64 s.lo.a, .int .i64 s.lo.b, .int .i64 s.lo.c, .int .i64 s.hi.a, .int .i64 s.hi.b, .int .i64 s.hi.c] 33)) w.heap.size 0 [.int .i64 s.sq, .int .i64 s.fe, .slice A s.ents.length c, .slice A2 s.tmbs.length c2, .int .i64 s.lo.a, .int .i64 s.lo.b, .int .i64 s.lo.c, .int .i64 s.hi.a, .int .i64 s.hi.b, .int .i64 s.hi.c]) := Lib.hid (Cells.new w _ _)
  have b0 : Below w.heap.size w (w.alloc (.cells #[.int .i64 s.sq, .int .i64 s.fe, .slice A s.ents.length c, .slice A2 s.tmbs.length c2, .int .i64 s.lo.a, .int .i64 s.lo.b, .int .i64 s.lo.c, .int .i64 s.hi.a, .int .i64 s.hi.b, .int .i64 s.hi.c] 33)) := bal (Below.refl _ _) _
  have HS := Lib.hid (H.out.below b0 hB)
  generalize w.alloc (.cells #[.int .i64 s.sq, .int .i64 s.fe, .slice A s.ents.length c, .slice A2 s.tmbs.length c2, .int .i64 s.lo.a, .int .i64 s.lo.b, .int .i64 s.lo.c, .int .i64 s.hi.a, .int .i64 s.hi.b, .int .i64 s.hi.c] 33) = W at *
  clear H
  obtain ⟨c0, c1, c2', c3, c4, c5, c6, c7, c8, c9⟩ := CA.out.ten
  clear c0 c1 c4 c5 c6 c7 c8 c9 CA
  go_loopw [5] (fun i wr => ∃ k : Nat, k ≤ s.ents.length ∧ i = .int .i64 k ∧ Hid (∀ j (h : j < s.ents.length), j < k → s.ents[j].key ≠ key) ∧ W = wr) (fun i _ => s.ents.length - (intOf i).toNat)
  case atStart => exact ⟨0, by omega, rfl, Lib.hid (fun j _ h => by omega), rfl⟩
  case round =>
    obtain ⟨k, hk, rfl, HN, rfl⟩ := hrel
    by_cases hlt : k < s.ents.length
    · obtain ⟨b1, o1, rfl, hb1, p0, p1, p2, p3⟩ := EntsAt.one HS.out.1 hlt
      have i1 : (0 : Int) ≤ (k : Int) := by omega
      have i2 : (k : Int) < (s.ents.length : Int) := by omega
      by_cases e : s.ents[k].key = key
      · have d : (s.ents[k].key.toList == key.toList) = true := by rw [e]; simp
        have HY := Lib.hid (memB_iff.2 (HM.out.2 (Or.inl ⟨k, hlt, e⟩)))
        clear e
        go_wp2
        refine bodyPost_ret (v := .bool true) (by simp [results, Tryd.results83, go_sem]) rfl ⟨by rw [HY.out], b0⟩
      · have d := ne_list e
        have HN2 := Lib.hid (show ∀ j (h : j < s.ents.length), j < k + 1 → s.ents[j].key ≠ key from fun j h hj => by
          by_cases ej : j = k
          · subst ej; exact e
          · exact HN.out j h (by omega))
        clear e HN
        go_wp2
        go_roundw
        case rel => exact ⟨k + 1, by omega, by go_num, HN2, by first | rfl | trivial⟩
        case measure => simp [intOf]; omega
    · have HNE := Lib.hid (show ∀ j (h : j < s.ents.length), s.ents[j].key ≠ key from fun j h => HN.out j h (by omega))
      clear HN
      go_wp2_with fail
      go_loopw [6] (fun i wr => ∃ k : Nat, k ≤ s.tmbs.length ∧ i = .int .i64 k ∧ Hid (∀ j (h : j < s.tmbs.length), j < k → s.tmbs[j].key ≠ key) ∧ W = wr) (fun i _ => s.tmbs.length - (intOf i).toNat)
      case atStart => exact ⟨0, by omega, rfl, Lib.hid (fun j _ h => by omega), rfl⟩
      case round =>
        obtain ⟨k, hk, rfl, HN, rfl⟩ := hrel
        by_cases hlt : k < s.tmbs.length
        · obtain ⟨b1, o1, rfl, hb1, p0, p1⟩ := TmbsAt.one HS.out.2 hlt
          have i1 : (0 : Int) ≤ (k : Int) := by omega
          have i2 : (k : Int) < (s.tmbs.length : Int) := by omega
          by_cases e : s.tmbs[k].key = key
          · have d : (s.tmbs[k].key.toList == key.toList) = true := by rw [e]; simp
            have HY := Lib.hid (memB_iff.2 (HM.out.2 (Or.inr ⟨k, hlt, e⟩)))
            clear e
            go_wp2
            refine bodyPost_ret (v := .bool true) (by simp [results, Tryd.results83, go_sem]) rfl ⟨by rw [HY.out], b0⟩
          · have d := ne_list e
            have HN2 := Lib.hid (show ∀ j (h : j < s.tmbs.length), j < k + 1 → s.tmbs[j].key ≠ key from fun j h hj => by
              by_cases ej : j = k
              · subst ej; exact e
              · exact HN.out j h (by omega))
            clear e HN
            go_wp2
            go_roundw
            case rel => exact ⟨k + 1, by omega, by go_num, HN2, by first | rfl | trivial⟩
            case measure => simp [intOf]; omega
        · have HY : Hid (memB key (keysAll s) = false) := Lib.hid (Bool.eq_false_iff.2 fun h => by
            rcases HM.out.1 (memB_iff.1 h) with ⟨j, hj, e⟩ | ⟨j, hj, e⟩
            · exact HNE.out j hj e
            · exact HN.out j hj (by omega) e)
          go_wp2
          refine bodyPost_ret (v := .bool false) (by simp [results, Tryd.results83, go_sem]) rfl ⟨by rw [HY.out], b0⟩

theorem named_b (A : Option Addr) (c : Nat) (A2 : Option Addr) (c2 : Nat) (s : GSt) (key : ByteArray) (b : Bool) (hb : memB key (keysAll s) = b) (B : Nat) (w : World) (h : StAt w B A A2 s) (hB : B ≤ w.heap.size) (hl : s.ents.length ≤ 1048576) (hl2 : s.tmbs.length ≤ 1048576) :
    Calls Tryd.prog 83 #[.agg #[.int .i64 s.sq, .int .i64 s.fe, .slice A s.ents.length c, .slice A2 s.tmbs.length c2, .int .i64 s.lo.a, .int .i64 s.lo.b, .int .i64 s.lo.c, .int .i64 s.hi.a, .int .i64 s.hi.b, .int .i64 s.hi.c], .string key] w fun e w' => e = .returned (.bool b) ∧ Below w.heap.size w w' := by
  rw [← hb]; exact l06Named_any A c A2 c2 s key B w h hB hl hl2

set_option maxRecDepth 100000 in
set_option maxHeartbeats 4000000 in
theorem l07Orphans_any (A : Option Addr) (c : Nat) (A2 : Option Addr) (c2 : Nat) (s : GSt) (Ak : Option Addr) (ck : Nat) (ks : List ByteArray) (B : Nat) (w : World) (h : StAt w B A A2 s) (hks : StrsAt w B Ak ks) (hB : B ≤ w.heap.size) (hl : s.ents.length ≤ 1048576) (hl2 : s.tmbs.length ≤ 1048576) (hk : ks.length ≤ 4096) (hf : ∀ o ∈ ks, o.size ≤ 1048576) :
    Calls Tryd.prog 55 #[.agg #[.int .i64 s.sq, .int .i64 s.fe, .slice A s.ents.length c, .slice A2 s.tmbs.length c2, .int .i64 s.lo.a, .int .i64 s.lo.b, .int .i64 s.lo.c, .int .i64 s.hi.a, .int .i64 s.hi.b, .int .i64 s.hi.c], .slice Ak ks.length ck] w (NewTxts (ks.filter (orphB s)) w) := by
  have H := Lib.hid h; clear h
  have HK := Lib.hid hks; clear hks
  have HF := Lib.hid hf; clear hf
  go_enter Tryd.func55, Tryd.ntmps55
  go_wp2_with fail
  obtain ⟨W, hW⟩ : ∃ W, W = (w.alloc (.cells #[.int .i64 s.sq, .int .i64 s.fe, .slice A s.ents.length c, .slice A2 s.tmbs.length c2, .int .i64 s.lo.a, .int .i64 s.lo.b, .int .i64 s.lo.c, .int .i64 s.hi.a, .int .i64 s.hi.b, .int .i64 s.hi.c] 33)).alloc (.cells #[] 9) := ⟨_, rfl⟩
  have CA : Hid (Cells W w.heap.size 0 [.int .i64 s.sq, .int .i64 s.fe, .slice A s.ents.length c, .slice A2 s.tmbs.length c2, .int .i64 s.lo.a, .int .i64 s.lo.b, .int .i64 s.lo.c, .int .i64 s.hi.a, .int .i64 s.hi.b, .int .i64 s.hi.c]) := Lib.hid (by rw [hW]; exact (Cells.new w _ _).below (bal (Below.refl _ _) _) (by simp))
  have O0 : Hid (OwnSl cxV 1 9 (w.heap.size + 1) W (.slice (some ⟨w.heap.size + 1, 0, none⟩) 0 0) []) := Lib.hid (by
    rw [hW]
    have k := own_empty cxV 1 9 (w.alloc (.cells #[.int .i64 s.sq, .int .i64 s.fe, .slice A s.ents.length c, .slice A2 s.tmbs.length c2, .int .i64 s.lo.a, .int .i64 s.lo.b, .int .i64 s.lo.c, .int .i64 s.hi.a, .int .i64 s.hi.b, .int .i64 s.hi.c] 33))
    have k2 : OwnSl cxV 1 9 (w.heap.size + 1) ((w.alloc (.cells #[.int .i64 s.sq, .int .i64 s.fe, .slice A s.ents.length c, .slice A2 s.tmbs.length c2, .int .i64 s.lo.a, .int .i64 s.lo.b, .int .i64 s.lo.c, .int .i64 s.hi.a, .int .i64 s.hi.b, .int .i64 s.hi.c] 33)).alloc (.cells #[] 9)) (.slice (some ⟨w.heap.size + 1, 0, none⟩) 0 0) [] := by simpa using k
    exact k2)
  have b0 : Below w.heap.size w W := by rw [hW]; exact bal (bal (Below.refl _ _) _) _
  have s0 : w.heap.size + 1 < W.heap.size := by rw [hW]; simp
  rw [← hW]
  clear hW
  generalize hx0 : w.heap.size = x0 at *
  have Hx0 := Lib.hid hx0; clear hx0
  have HS : Hid (∀ w', Below x0 w w' → StAt w' x0 A A2 s) := Lib.hid fun w' hb => (H.out.below hb (by have := Hx0.out; omega)).more (by have := Hx0.out; omega)
  have HKS : Hid (∀ w', Below x0 w w' → StrsAt w' x0 Ak ks) := Lib.hid fun w' hb => Sl.more (Sl.below HK.out hb (by have := Hx0.out; omega)) (by have := Hx0.out; omega)
  clear H HK
  go_loopw [5, 6] (fun v i wr => ∃ (k : Nat) (Av : Option Addr) (cv : Nat), k ≤ ks.length ∧ i = .int .i64 k ∧ v = .slice Av (orphs s ks k).length cv ∧ Hid (OwnSl cxV 1 9 (x0 + 1) wr (.slice Av (orphs s ks k).length cv) (orphs s ks k)) ∧ Hid (Cells wr x0 0 [.int .i64 s.sq, .int .i64 s.fe, .slice A s.ents.length c, .slice A2 s.tmbs.length c2, .int .i64 s.lo.a, .int .i64 s.lo.b, .int .i64 s.lo.c, .int .i64 s.hi.a, .int .i64 s.hi.b, .int .i64 s.hi.c]) ∧ Hid (x0 + 1 < wr.heap.size) ∧ Below x0 w wr) (fun _ i _ => ks.length - (intOf i).toNat)
  case atStart => exact ⟨0, _, _, by omega, rfl, by rw [orphs_zero]; rfl, by rw [orphs_zero]; exact O0, CA, Lib.hid s0, b0⟩
  case round =>
    clear O0 CA s0 b0
    obtain ⟨k, Av, cv, hk, rfl, rfl, HO, HC, HX, hb⟩ := hrel
    by_cases hlt : k < ks.length
    · obtain ⟨b1, o1, rfl, hb1, p0⟩ := StrsAt.at_ (HKS.out _ hb) hlt
      have hfit : ks[k].size ≤ 1048576 := HF.out _ (List.getElem_mem hlt)
      have i1 : (0 : Int) ≤ (k : Int) := by omega
      have i2 : (k : Int) < (ks.length : Int) := by omega
      have HY := Lib.hid (fun h1 => orphs_yes (s := s) hlt h1)
      have HNO := Lib.hid (fun h1 => orphs_no (s := s) hlt h1)
      have hpl := orphs_len s ks k
      generalize ks[k] = key at *
      go_wp2_with fail
      refine (toKey_any key wr hfit).mono ?_
      rintro e w2 ⟨t, n, m, bk, rfl, hK, hb2⟩
      have b2 : Below x0 w w2 := hb.trans (hb2.mono (by have := HX.out; omega))
      have C2 := Lib.hid (HC.out.below hb2 (by have := HX.out; omega))
      have HO2 := Lib.hid (HO.out.below hb2)
      have s2 : x0 + 1 < w2.heap.size := by have := hb2.size; have := HX.out; omega
      have P2 : w2.cell? ⟨b1, o1 + k, none⟩ = some (.string key) := (hb2.cell (p := ⟨b1, o1 + k, none⟩) (by show b1 < wr.heap.size; have := HX.out; omega)).trans p0
      clear hb2 HO HC HX p0 hb
      have CS := C2.out.ten
      rcases hK with ⟨rfl, hK⟩ | ⟨rfl, rfl, rfl, rfl, hN⟩
      rotate_left
      · have E := Lib.hid (HNO.out (Bool.eq_false_iff.2 fun h => past_no hN (orphB_iff.1 h).2))
        clear HY HNO hN CS
        go_wp2_with fail
        go_quiet (fail)
        go_wp2_with fail
        go_roundw
        case rel => exact ⟨k + 1, Av, cv, by omega, by go_num, by rw [E.out], by rw [E.out]; exact HO2.out.below (bdrewB (Below.refl w2.heap.size w2) _), Lib.hid (C2.out.below (bdrewB (Below.refl w2.heap.size w2) _) (by omega)), Lib.hid s2, bdrewB b2 _⟩
        case measure => simp [intOf]; omega
      have HPI := Lib.hid (past_iff (s := s) hK)
      have ht0 : 0 ≤ t ∧ t ≤ 2 := ⟨hK.1.1, hK.1.2.1⟩
      clear hK
      have HNM : Hid (StAt w2 x0 A A2 s) := Lib.hid (HS.out _ b2)
      go_wp2_with fail
      cases hmb : memB key (keysAll s)
      rotate_left
      · have HMT := Lib.hid hmb
        have E := Lib.hid (HNO.out (Bool.eq_false_iff.2 fun h => (orphB_iff.1 h).1 (memB_iff.1 HMT.out)))
        clear HY HNO HPI
        refine wp_region_noPanic ?_
        refine wp_region_held_drew (S := (fun w' => (w'.cell? ⟨x0, 0, none⟩ = some (.int .i64 s.sq) ∧ w'.cell? ⟨x0, 1, none⟩ = some (.int .i64 s.fe) ∧ w'.cell? ⟨x0, 2, none⟩ = some (.slice A s.ents.length c) ∧ w'.cell? ⟨x0, 3, none⟩ = some (.slice A2 s.tmbs.length c2) ∧ w'.cell? ⟨x0, 4, none⟩ = some (.int .i64 s.lo.a) ∧ w'.cell? ⟨x0, 5, none⟩ = some (.int .i64 s.lo.b) ∧ w'.cell? ⟨x0, 6, none⟩ = some (.int .i64 s.lo.c) ∧ w'.cell? ⟨x0, 7, none⟩ = some (.int .i64 s.hi.a) ∧ w'.cell? ⟨x0, 8, none⟩ = some (.int .i64 s.hi.b) ∧ w'.cell? ⟨x0, 9, none⟩ = some (.int .i64 s.hi.c)) ∧ w'.cell? ⟨b1, o1 + k, none⟩ = some (.string key))) (by kernel_rfl) (⟨CS, P2⟩) (fun hHeld => ?_)
        refine wpAnyH_take (i := 0) (oi := { dst := some 28, op := Op.move (Operand.tmp 10), type := 4, pos := "l07_plan.go:87", after := #[], guard := none }) (v := ?ve0) rfl (by kernel_rfl) (by kernel_rfl) (by kernel_rfl) (fun _ _ _ h => h) (Or.inl ⟨by rfl, ?hye0⟩) (by assumption) ?reste0
        case hye0 => intro w hSw; (try dsimp only at hSw); (obtain ⟨⟨q0, q1, q2, q3, q4, q5, q6, q7, q8, q9⟩, p0⟩ := hSw); (first | (go_simp; done) | (go_simp; with_reducible rfl) | (with_reducible rfl))
        try simp only [Act.put, List.setIfInBounds_toArray, List.set_cons_zero, List.set_cons_succ]
        refine wpAnyH_take (i := 1) (oi := { dst := some 29, op := Op.move (Operand.tmp 28), type := 4, pos := "l07_plan.go:87", after := #[{ on := 0, ground := Ground.data }], guard := none }) (v := ?ve1) rfl (by kernel_rfl) (by kernel_rfl) (by kernel_rfl) (fun _ _ _ h => h) (Or.inl ⟨by rfl, ?hye1⟩) (by assumption) ?reste1
        case hye1 => intro w hSw; (try dsimp only at hSw); (obtain ⟨⟨q0, q1, q2, q3, q4, q5, q6, q7, q8, q9⟩, p0⟩ := hSw); (first | (go_simp; done) | (go_simp; with_reducible rfl) | (with_reducible rfl))
        try simp only [Act.put, List.setIfInBounds_toArray, List.set_cons_zero, List.set_cons_succ]
        refine wpAnyH_take (i := 2) (oi := { dst := some 30, op := Op.load 33 (Operand.tmp 2), type := 33, pos := "l07_plan.go:87", after := #[{ on := 1, ground := Ground.guard }], guard := some (1, true) }) (v := ?ve2) rfl (by kernel_rfl) (by kernel_rfl) (by kernel_rfl) (fun _ _ _ h => h) (Or.inl ⟨by rfl, ?hye2⟩) (by assumption) ?reste2
        case hye2 => intro w hSw; (try dsimp only at hSw); (obtain ⟨⟨q0, q1, q2, q3, q4, q5, q6, q7, q8, q9⟩, p0⟩ := hSw); (first | (go_simp; done) | (go_simp; with_reducible rfl) | (with_reducible rfl))
        try simp only [Act.put, List.setIfInBounds_toArray, List.set_cons_zero, List.set_cons_succ]
        refine wpAnyH_take (i := 3) (oi := { dst := some 31, op := Op.move (Operand.tmp 1), type := 49, pos := "l07_plan.go:87", after := #[{ on := 1, ground := Ground.guard }], guard := some (1, true) }) (v := ?ve3) rfl (by kernel_rfl) (by kernel_rfl) (by kernel_rfl) (fun _ _ _ h => h) (Or.inl ⟨by rfl, ?hye3⟩) (by assumption) ?reste3
        case hye3 => intro w hSw; (try dsimp only at hSw); (obtain ⟨⟨q0, q1, q2, q3, q4, q5, q6, q7, q8, q9⟩, p0⟩ := hSw); (first | (go_simp; done) | (go_simp; with_reducible rfl) | (with_reducible rfl))
        try simp only [Act.put, List.setIfInBounds_toArray, List.set_cons_zero, List.set_cons_succ]
        refine wpAnyH_take (i := 4) (oi := { dst := some 32, op := Op.move (Operand.tmp 6), type := 3, pos := "l07_plan.go:87", after := #[{ on := 1, ground := Ground.guard }], guard := some (1, true) }) (v := ?ve4) rfl (by kernel_rfl) (by kernel_rfl) (by kernel_rfl) (fun _ _ _ h => h) (Or.inl ⟨by rfl, ?hye4⟩) (by assumption) ?reste4
        case hye4 => intro w hSw; (try dsimp only at hSw); (obtain ⟨⟨q0, q1, q2, q3, q4, q5, q6, q7, q8, q9⟩, p0⟩ := hSw); (first | (go_simp; done) | (go_simp; with_reducible rfl) | (with_reducible rfl))
        try simp only [Act.put, List.setIfInBounds_toArray, List.set_cons_zero, List.set_cons_succ]
        refine wpAnyH_take (i := 5) (oi := { dst := some 33, op := Op.indexAddr 49 (Operand.tmp 31) (Operand.tmp 32), type := 0, pos := "l07_plan.go:87", after := #[{ on := 3, ground := Ground.data }, { on := 4, ground := Ground.data }, { on := 1, ground := Ground.guard }], guard := some (1, true) }) (v := ?ve5) rfl (by kernel_rfl) (by kernel_rfl) (by kernel_rfl) (fun _ _ _ h => h) (Or.inl ⟨by rfl, ?hye5⟩) (by assumption) ?reste5
        case hye5 => intro w hSw; (try dsimp only at hSw); (obtain ⟨⟨q0, q1, q2, q3, q4, q5, q6, q7, q8, q9⟩, p0⟩ := hSw); (first | (go_simp; done) | (go_simp; with_reducible rfl) | (with_reducible rfl))
        try simp only [Act.put, List.setIfInBounds_toArray, List.set_cons_zero, List.set_cons_succ]
        refine wpAnyH_take (i := 6) (oi := { dst := some 34, op := Op.load 9 (Operand.tmp 33), type := 9, pos := "l07_plan.go:87", after := #[{ on := 5, ground := Ground.data }, { on := 1, ground := Ground.guard }], guard := some (1, true) }) (v := ?ve6) rfl (by kernel_rfl) (by kernel_rfl) (by kernel_rfl) (fun _ _ _ h => h) (Or.inl ⟨by rfl, ?hye6⟩) (by assumption) ?reste6
        case hye6 => intro w hSw; (try dsimp only at hSw); (obtain ⟨⟨q0, q1, q2, q3, q4, q5, q6, q7, q8, q9⟩, p0⟩ := hSw); (first | (go_simp; done) | (go_simp; with_reducible rfl) | (with_reducible rfl))
        try simp only [Act.put, List.setIfInBounds_toArray, List.set_cons_zero, List.set_cons_succ]
        refine wpAnyH_ready (rs := [7]) (by kernel_rfl) (by simp) ?_
        refine AllReadyH.cons (o := { dst := some 35, op := Op.call { callee := Callee.value (Operand.func 83), args := #[Operand.tmp 30, Operand.tmp 34], argTypes := #[33, 9] }, type := 4, pos := "l07_plan.go:87", after := #[{ on := 2, ground := Ground.data }, { on := 6, ground := Ground.data }, { on := 1, ground := Ground.chain }, { on := 1, ground := Ground.guard }], guard := some (1, true) }) rfl (fun K hK => ?_) AllReadyH.nil
        go_simp
        refine (named_b A c A2 c2 s key true HMT.out x0 _ (HNM.out.below (Below.refl w2.heap.size w2).drew (by omega)) (by show x0 ≤ w2.heap.size; omega) hl hl2).mono ?_
        rintro r w4 ⟨rfl, hb4'⟩
        have hb4 : Below w2.heap.size w2 w4 := (Below.refl _ _).drew.trans hb4'
        clear hb4'
        have C4 := Lib.hid (C2.out.below hb4 (by omega))
        have C4' := C4.out.ten
        have P4 : w4.cell? ⟨b1, o1 + k, none⟩ = some (.string key) := (hb4.cell (p := ⟨b1, o1 + k, none⟩) (by show b1 < w2.heap.size; omega)).trans P2
        have HO4 := Lib.hid (HO2.out.below hb4)
        have b4 : Below x0 w w4 := b2.trans (hb4.mono (by omega))
        have s4 : x0 + 1 < w4.heap.size := by have := hb4.size; omega
        go_wp2_with fail
        refine hK.out _ _ (⟨C4', P4⟩) (fun hHeld => ?_)
        clear hK K
        try simp only [Act.put, List.setIfInBounds_toArray, List.set_cons_zero, List.set_cons_succ]
        refine wpAnyH_take (i := 8) (oi := { dst := some 36, op := Op.unOp UnOp.not 4 (Operand.tmp 35), type := 4, pos := "l07_plan.go:87", after := #[{ on := 7, ground := Ground.data }, { on := 1, ground := Ground.guard }], guard := some (1, true) }) (v := ?ve8) rfl (by kernel_rfl) (by kernel_rfl) (by kernel_rfl) (fun _ _ _ h => h) (Or.inl ⟨by rfl, ?hye8⟩) (by assumption) ?reste8
        case hye8 => intro w hSw; (try dsimp only at hSw); (obtain ⟨⟨q0, q1, q2, q3, q4, q5, q6, q7, q8, q9⟩, p0⟩ := hSw); (first | (go_simp; done) | (go_simp; with_reducible rfl) | (with_reducible rfl))
        try simp only [Act.put, List.setIfInBounds_toArray, List.set_cons_zero, List.set_cons_succ]
        refine wpAnyH_take (i := 9) (oi := { dst := some 37, op := Op.pick (Operand.tmp 29) (Operand.tmp 36) (Operand.const (Value.bool false)), type := 4, pos := "l07_plan.go:87", after := #[{ on := 1, ground := Ground.data }, { on := 8, ground := Ground.data }], guard := none }) (v := ?ve9) rfl (by kernel_rfl) (by kernel_rfl) (by kernel_rfl) (fun _ _ _ h => h) (Or.inl ⟨by rfl, ?hye9⟩) (by assumption) ?reste9
        case hye9 => intro w hSw; (try dsimp only at hSw); (obtain ⟨⟨q0, q1, q2, q3, q4, q5, q6, q7, q8, q9⟩, p0⟩ := hSw); (first | (go_simp; done) | (go_simp; with_reducible rfl) | (with_reducible rfl))
        try simp only [Act.put, List.setIfInBounds_toArray, List.set_cons_zero, List.set_cons_succ]
        refine wpAnyH_take (i := 10) (oi := { dst := some 38, op := Op.move (Operand.tmp 37), type := 4, pos := "l07_plan.go:87", after := #[{ on := 9, ground := Ground.data }, { on := 7, ground := Ground.chain }], guard := none }) (v := ?ve10) rfl (by kernel_rfl) (by kernel_rfl) (by kernel_rfl) (fun _ _ _ h => h) (Or.inl ⟨by rfl, ?hye10⟩) (by assumption) ?reste10
        case hye10 => intro w hSw; (try dsimp only at hSw); (obtain ⟨⟨q0, q1, q2, q3, q4, q5, q6, q7, q8, q9⟩, p0⟩ := hSw); (first | (go_simp; done) | (go_simp; with_reducible rfl) | (with_reducible rfl))
        try simp only [Act.put, List.setIfInBounds_toArray, List.set_cons_zero, List.set_cons_succ]
        refine wpAnyH_take (i := 11) (oi := { dst := some 39, op := Op.move (Operand.tmp 7), type := 3, pos := "l07_plan.go:87", after := #[{ on := 10, ground := Ground.guard }], guard := some (10, true) }) (v := undef) rfl (by kernel_rfl) (by kernel_rfl) (by kernel_rfl) (fun _ _ _ h => h) (Or.inr ⟨by rfl, rfl⟩) (by assumption) ?_
        try simp only [Act.put, List.setIfInBounds_toArray, List.set_cons_zero, List.set_cons_succ]
        refine wpAnyH_take (i := 12) (oi := { dst := some 40, op := Op.binOp BinOp.eql 3 (Operand.tmp 39) (Operand.const (Value.int IntKind.i64 0)) 3, type := 4, pos := "l07_plan.go:87", after := #[{ on := 11, ground := Ground.data }, { on := 10, ground := Ground.guard }], guard := some (10, true) }) (v := undef) rfl (by kernel_rfl) (by kernel_rfl) (by kernel_rfl) (fun _ _ _ h => h) (Or.inr ⟨by rfl, rfl⟩) (by assumption) ?_
        try simp only [Act.put, List.setIfInBounds_toArray, List.set_cons_zero, List.set_cons_succ]
        refine wpAnyH_take (i := 13) (oi := { dst := some 41, op := Op.move (Operand.tmp 40), type := 4, pos := "l07_plan.go:87", after := #[{ on := 12, ground := Ground.data }, { on := 10, ground := Ground.chain }, { on := 10, ground := Ground.guard }], guard := some (10, true) }) (v := undef) rfl (by kernel_rfl) (by kernel_rfl) (by kernel_rfl) (fun _ _ _ h => h) (Or.inr ⟨by rfl, rfl⟩) (by assumption) ?_
        try simp only [Act.put, List.setIfInBounds_toArray, List.set_cons_zero, List.set_cons_succ]
        refine wpAnyH_take (i := 14) (oi := { dst := some 42, op := Op.move (Operand.tmp 8), type := 3, pos := "l07_plan.go:87", after := #[{ on := 13, ground := Ground.guard }], guard := some (13, true) }) (v := undef) rfl (by kernel_rfl) (by kernel_rfl) (by kernel_rfl) (fun _ _ _ h => h) (Or.inr ⟨by rfl, rfl⟩) (by assumption) ?_
        try simp only [Act.put, List.setIfInBounds_toArray, List.set_cons_zero, List.set_cons_succ]
        refine wpAnyH_take (i := 15) (oi := { dst := some 43, op := Op.fieldAddr 33 (Operand.tmp 2) 0, type := 0, pos := "l07_plan.go:87", after := #[{ on := 13, ground := Ground.guard }], guard := some (13, true) }) (v := undef) rfl (by kernel_rfl) (by kernel_rfl) (by kernel_rfl) (fun _ _ _ h => h) (Or.inr ⟨by rfl, rfl⟩) (by assumption) ?_
        try simp only [Act.put, List.setIfInBounds_toArray, List.set_cons_zero, List.set_cons_succ]
        refine wpAnyH_take (i := 16) (oi := { dst := some 44, op := Op.load 3 (Operand.tmp 43), type := 3, pos := "l07_plan.go:87", after := #[{ on := 15, ground := Ground.data }, { on := 13, ground := Ground.guard }], guard := some (13, true) }) (v := undef) rfl (by kernel_rfl) (by kernel_rfl) (by kernel_rfl) (fun _ _ _ h => h) (Or.inr ⟨by rfl, rfl⟩) (by assumption) ?_
        try simp only [Act.put, List.setIfInBounds_toArray, List.set_cons_zero, List.set_cons_succ]
        refine wpAnyH_take (i := 17) (oi := { dst := some 45, op := Op.binOp BinOp.leq 3 (Operand.tmp 42) (Operand.tmp 44) 3, type := 4, pos := "l07_plan.go:87", after := #[{ on := 14, ground := Ground.data }, { on := 16, ground := Ground.data }, { on := 13, ground := Ground.guard }], guard := some (13, true) }) (v := undef) rfl (by kernel_rfl) (by kernel_rfl) (by kernel_rfl) (fun _ _ _ h => h) (Or.inr ⟨by rfl, rfl⟩) (by assumption) ?_
        try simp only [Act.put, List.setIfInBounds_toArray, List.set_cons_zero, List.set_cons_succ]
        refine wpAnyH_take (i := 18) (oi := { dst := some 46, op := Op.pick (Operand.tmp 41) (Operand.tmp 45) (Operand.const (Value.bool false)), type := 4, pos := "l07_plan.go:87", after := #[{ on := 13, ground := Ground.data }, { on := 17, ground := Ground.data }, { on := 10, ground := Ground.guard }], guard := some (10, true) }) (v := undef) rfl (by kernel_rfl) (by kernel_rfl) (by kernel_rfl) (fun _ _ _ h => h) (Or.inr ⟨by rfl, rfl⟩) (by assumption) ?_
        try simp only [Act.put, List.setIfInBounds_toArray, List.set_cons_zero, List.set_cons_succ]
        refine wpAnyH_take (i := 19) (oi := { dst := some 47, op := Op.move (Operand.tmp 46), type := 4, pos := "l07_plan.go:87", after := #[{ on := 18, ground := Ground.data }, { on := 13, ground := Ground.chain }, { on := 10, ground := Ground.guard }], guard := some (10, true) }) (v := undef) rfl (by kernel_rfl) (by kernel_rfl) (by kernel_rfl) (fun _ _ _ h => h) (Or.inr ⟨by rfl, rfl⟩) (by assumption) ?_
        try simp only [Act.put, List.setIfInBounds_toArray, List.set_cons_zero, List.set_cons_succ]
        refine wpAnyH_take (i := 20) (oi := { dst := some 48, op := Op.move (Operand.tmp 7), type := 3, pos := "l07_plan.go:87", after := #[{ on := 19, ground := Ground.guard }], guard := some (19, false) }) (v := undef) rfl (by kernel_rfl) (by kernel_rfl) (by kernel_rfl) (fun _ _ _ h => h) (Or.inr ⟨by rfl, rfl⟩) (by assumption) ?_
        try simp only [Act.put, List.setIfInBounds_toArray, List.set_cons_zero, List.set_cons_succ]
        refine wpAnyH_take (i := 21) (oi := { dst := some 49, op := Op.binOp BinOp.gtr 3 (Operand.tmp 48) (Operand.const (Value.int IntKind.i64 0)) 3, type := 4, pos := "l07_plan.go:87", after := #[{ on := 20, ground := Ground.data }, { on := 19, ground := Ground.guard }], guard := some (19, false) }) (v := undef) rfl (by kernel_rfl) (by kernel_rfl) (by kernel_rfl) (fun _ _ _ h => h) (Or.inr ⟨by rfl, rfl⟩) (by assumption) ?_
        try simp only [Act.put, List.setIfInBounds_toArray, List.set_cons_zero, List.set_cons_succ]
        refine wpAnyH_take (i := 22) (oi := { dst := some 50, op := Op.move (Operand.tmp 49), type := 4, pos := "l07_plan.go:87", after := #[{ on := 21, ground := Ground.data }, { on := 19, ground := Ground.chain }, { on := 19, ground := Ground.guard }], guard := some (19, false) }) (v := undef) rfl (by kernel_rfl) (by kernel_rfl) (by kernel_rfl) (fun _ _ _ h => h) (Or.inr ⟨by rfl, rfl⟩) (by assumption) ?_
        try simp only [Act.put, List.setIfInBounds_toArray, List.set_cons_zero, List.set_cons_succ]
        refine wpAnyH_take (i := 23) (oi := { dst := some 51, op := Op.move (Operand.tmp 9), type := 3, pos := "l07_plan.go:87", after := #[{ on := 22, ground := Ground.guard }], guard := some (22, true) }) (v := undef) rfl (by kernel_rfl) (by kernel_rfl) (by kernel_rfl) (fun _ _ _ h => h) (Or.inr ⟨by rfl, rfl⟩) (by assumption) ?_
        try simp only [Act.put, List.setIfInBounds_toArray, List.set_cons_zero, List.set_cons_succ]
        refine wpAnyH_take (i := 24) (oi := { dst := some 52, op := Op.fieldAddr 33 (Operand.tmp 2) 1, type := 0, pos := "l07_plan.go:87", after := #[{ on := 22, ground := Ground.guard }], guard := some (22, true) }) (v := undef) rfl (by kernel_rfl) (by kernel_rfl) (by kernel_rfl) (fun _ _ _ h => h) (Or.inr ⟨by rfl, rfl⟩) (by assumption) ?_
        try simp only [Act.put, List.setIfInBounds_toArray, List.set_cons_zero, List.set_cons_succ]
        refine wpAnyH_take (i := 25) (oi := { dst := some 53, op := Op.load 3 (Operand.tmp 52), type := 3, pos := "l07_plan.go:87", after := #[{ on := 24, ground := Ground.data }, { on := 22, ground := Ground.guard }], guard := some (22, true) }) (v := undef) rfl (by kernel_rfl) (by kernel_rfl) (by kernel_rfl) (fun _ _ _ h => h) (Or.inr ⟨by rfl, rfl⟩) (by assumption) ?_
        try simp only [Act.put, List.setIfInBounds_toArray, List.set_cons_zero, List.set_cons_succ]
        refine wpAnyH_take (i := 26) (oi := { dst := some 54, op := Op.binOp BinOp.lss 3 (Operand.tmp 51) (Operand.tmp 53) 3, type := 4, pos := "l07_plan.go:87", after := #[{ on := 23, ground := Ground.data }, { on := 25, ground := Ground.data }, { on := 22, ground := Ground.guard }], guard := some (22, true) }) (v := undef) rfl (by kernel_rfl) (by kernel_rfl) (by kernel_rfl) (fun _ _ _ h => h) (Or.inr ⟨by rfl, rfl⟩) (by assumption) ?_
        try simp only [Act.put, List.setIfInBounds_toArray, List.set_cons_zero, List.set_cons_succ]
        refine wpAnyH_take (i := 27) (oi := { dst := some 55, op := Op.pick (Operand.tmp 50) (Operand.tmp 54) (Operand.const (Value.bool false)), type := 4, pos := "l07_plan.go:87", after := #[{ on := 22, ground := Ground.data }, { on := 26, ground := Ground.data }, { on := 19, ground := Ground.guard }], guard := some (19, false) }) (v := undef) rfl (by kernel_rfl) (by kernel_rfl) (by kernel_rfl) (fun _ _ _ h => h) (Or.inr ⟨by rfl, rfl⟩) (by assumption) ?_
        try simp only [Act.put, List.setIfInBounds_toArray, List.set_cons_zero, List.set_cons_succ]
        refine wpAnyH_take (i := 28) (oi := { dst := some 56, op := Op.pick (Operand.tmp 47) (Operand.const (Value.bool true)) (Operand.tmp 55), type := 4, pos := "l07_plan.go:87", after := #[{ on := 19, ground := Ground.data }, { on := 27, ground := Ground.data }, { on := 10, ground := Ground.guard }], guard := some (10, true) }) (v := undef) rfl (by kernel_rfl) (by kernel_rfl) (by kernel_rfl) (fun _ _ _ h => h) (Or.inr ⟨by rfl, rfl⟩) (by assumption) ?_
        try simp only [Act.put, List.setIfInBounds_toArray, List.set_cons_zero, List.set_cons_succ]
        refine wpAnyH_take (i := 29) (oi := { dst := some 57, op := Op.pick (Operand.tmp 38) (Operand.tmp 56) (Operand.const (Value.bool false)), type := 4, pos := "l07_plan.go:87", after := #[{ on := 10, ground := Ground.data }, { on := 28, ground := Ground.data }], guard := none }) (v := ?ve29) rfl (by kernel_rfl) (by kernel_rfl) (by kernel_rfl) (fun _ _ _ h => h) (Or.inl ⟨by rfl, ?hye29⟩) (by assumption) ?reste29
        case hye29 => intro w hSw; (try dsimp only at hSw); (obtain ⟨⟨q0, q1, q2, q3, q4, q5, q6, q7, q8, q9⟩, p0⟩ := hSw); (first | (go_simp; done) | (go_simp; with_reducible rfl) | (with_reducible rfl))
        try simp only [Act.put, List.setIfInBounds_toArray, List.set_cons_zero, List.set_cons_succ]
        refine wpAnyH_done (by kernel_rfl) ?_ _
        refine NoPanic.normal ?_
        clear hHeld CS hb4
        go_wp2_with fail
        go_roundw
        case rel => exact ⟨k + 1, Av, cv, by omega, by go_num, by rw [E.out], by rw [E.out]; exact HO4, C4, Lib.hid s4, b4⟩
        case measure => simp [intOf]; omega
      have HMB : Hid (key ∉ keysAll s) := Lib.hid fun h => by rw [memB_iff.2 h] at hmb; cases hmb
      by_cases ht : t = 0
      · subst ht
        have HPI2 : Hid (PastP s key ↔ n ≤ s.sq) := Lib.hid (by rw [HPI.out]; simp)
        by_cases hn : n ≤ s.sq
        · have dd : decide (n ≤ s.sq) = true := by simpa using hn
          have E := Lib.hid (HY.out (orphB_iff.2 ⟨HMB.out, HPI2.out.2 hn⟩))
          clear HY HNO HPI HPI2 hn
          generalize orphs s ks k = ps at *
          refine wp_region_noPanic ?_
          refine wp_region_held_drew (S := (fun w' => (w'.cell? ⟨x0, 0, none⟩ = some (.int .i64 s.sq) ∧ w'.cell? ⟨x0, 1, none⟩ = some (.int .i64 s.fe) ∧ w'.cell? ⟨x0, 2, none⟩ = some (.slice A s.ents.length c) ∧ w'.cell? ⟨x0, 3, none⟩ = some (.slice A2 s.tmbs.length c2) ∧ w'.cell? ⟨x0, 4, none⟩ = some (.int .i64 s.lo.a) ∧ w'.cell? ⟨x0, 5, none⟩ = some (.int .i64 s.lo.b) ∧ w'.cell? ⟨x0, 6, none⟩ = some (.int .i64 s.lo.c) ∧ w'.cell? ⟨x0, 7, none⟩ = some (.int .i64 s.hi.a) ∧ w'.cell? ⟨x0, 8, none⟩ = some (.int .i64 s.hi.b) ∧ w'.cell? ⟨x0, 9, none⟩ = some (.int .i64 s.hi.c)) ∧ w'.cell? ⟨b1, o1 + k, none⟩ = some (.string key))) (by kernel_rfl) (⟨CS, P2⟩) (fun hHeld => ?_)
          refine wpAnyH_take (i := 0) (oi := { dst := some 28, op := Op.move (Operand.tmp 10), type := 4, pos := "l07_plan.go:87", after := #[], guard := none }) (v := ?vf0) rfl (by kernel_rfl) (by kernel_rfl) (by kernel_rfl) (fun _ _ _ h => h) (Or.inl ⟨by rfl, ?hyf0⟩) (by assumption) ?restf0
          case hyf0 => intro w hSw; (try dsimp only at hSw); (obtain ⟨⟨q0, q1, q2, q3, q4, q5, q6, q7, q8, q9⟩, p0⟩ := hSw); (first | (go_simp; done) | (go_simp; with_reducible rfl) | (with_reducible rfl))
          try simp only [Act.put, List.setIfInBounds_toArray, List.set_cons_zero, List.set_cons_succ]
          refine wpAnyH_take (i := 1) (oi := { dst := some 29, op := Op.move (Operand.tmp 28), type := 4, pos := "l07_plan.go:87", after := #[{ on := 0, ground := Ground.data }], guard := none }) (v := ?vf1) rfl (by kernel_rfl) (by kernel_rfl) (by kernel_rfl) (fun _ _ _ h => h) (Or.inl ⟨by rfl, ?hyf1⟩) (by assumption) ?restf1
          case hyf1 => intro w hSw; (try dsimp only at hSw); (obtain ⟨⟨q0, q1, q2, q3, q4, q5, q6, q7, q8, q9⟩, p0⟩ := hSw); (first | (go_simp; done) | (go_simp; with_reducible rfl) | (with_reducible rfl))
          try simp only [Act.put, List.setIfInBounds_toArray, List.set_cons_zero, List.set_cons_succ]
          refine wpAnyH_take (i := 2) (oi := { dst := some 30, op := Op.load 33 (Operand.tmp 2), type := 33, pos := "l07_plan.go:87", after := #[{ on := 1, ground := Ground.guard }], guard := some (1, true) }) (v := ?vf2) rfl (by kernel_rfl) (by kernel_rfl) (by kernel_rfl) (fun _ _ _ h => h) (Or.inl ⟨by rfl, ?hyf2⟩) (by assumption) ?restf2
          case hyf2 => intro w hSw; (try dsimp only at hSw); (obtain ⟨⟨q0, q1, q2, q3, q4, q5, q6, q7, q8, q9⟩, p0⟩ := hSw); (first | (go_simp; done) | (go_simp; with_reducible rfl) | (with_reducible rfl))
          try simp only [Act.put, List.setIfInBounds_toArray, List.set_cons_zero, List.set_cons_succ]
          refine wpAnyH_take (i := 3) (oi := { dst := some 31, op := Op.move (Operand.tmp 1), type := 49, pos := "l07_plan.go:87", after := #[{ on := 1, ground := Ground.guard }], guard := some (1, true) }) (v := ?vf3) rfl (by kernel_rfl) (by kernel_rfl) (by kernel_rfl) (fun _ _ _ h => h) (Or.inl ⟨by rfl, ?hyf3⟩) (by assumption) ?restf3
          case hyf3 => intro w hSw; (try dsimp only at hSw); (obtain ⟨⟨q0, q1, q2, q3, q4, q5, q6, q7, q8, q9⟩, p0⟩ := hSw); (first | (go_simp; done) | (go_simp; with_reducible rfl) | (with_reducible rfl))
          try simp only [Act.put, List.setIfInBounds_toArray, List.set_cons_zero, List.set_cons_succ]
          refine wpAnyH_take (i := 4) (oi := { dst := some 32, op := Op.move (Operand.tmp 6), type := 3, pos := "l07_plan.go:87", after := #[{ on := 1, ground := Ground.guard }], guard := some (1, true) }) (v := ?vf4) rfl (by kernel_rfl) (by kernel_rfl) (by kernel_rfl) (fun _ _ _ h => h) (Or.inl ⟨by rfl, ?hyf4⟩) (by assumption) ?restf4
          case hyf4 => intro w hSw; (try dsimp only at hSw); (obtain ⟨⟨q0, q1, q2, q3, q4, q5, q6, q7, q8, q9⟩, p0⟩ := hSw); (first | (go_simp; done) | (go_simp; with_reducible rfl) | (with_reducible rfl))
          try simp only [Act.put, List.setIfInBounds_toArray, List.set_cons_zero, List.set_cons_succ]
          refine wpAnyH_take (i := 5) (oi := { dst := some 33, op := Op.indexAddr 49 (Operand.tmp 31) (Operand.tmp 32), type := 0, pos := "l07_plan.go:87", after := #[{ on := 3, ground := Ground.data }, { on := 4, ground := Ground.data }, { on := 1, ground := Ground.guard }], guard := some (1, true) }) (v := ?vf5) rfl (by kernel_rfl) (by kernel_rfl) (by kernel_rfl) (fun _ _ _ h => h) (Or.inl ⟨by rfl, ?hyf5⟩) (by assumption) ?restf5
          case hyf5 => intro w hSw; (try dsimp only at hSw); (obtain ⟨⟨q0, q1, q2, q3, q4, q5, q6, q7, q8, q9⟩, p0⟩ := hSw); (first | (go_simp; done) | (go_simp; with_reducible rfl) | (with_reducible rfl))
          try simp only [Act.put, List.setIfInBounds_toArray, List.set_cons_zero, List.set_cons_succ]
          refine wpAnyH_take (i := 6) (oi := { dst := some 34, op := Op.load 9 (Operand.tmp 33), type := 9, pos := "l07_plan.go:87", after := #[{ on := 5, ground := Ground.data }, { on := 1, ground := Ground.guard }], guard := some (1, true) }) (v := ?vf6) rfl (by kernel_rfl) (by kernel_rfl) (by kernel_rfl) (fun _ _ _ h => h) (Or.inl ⟨by rfl, ?hyf6⟩) (by assumption) ?restf6
          case hyf6 => intro w hSw; (try dsimp only at hSw); (obtain ⟨⟨q0, q1, q2, q3, q4, q5, q6, q7, q8, q9⟩, p0⟩ := hSw); (first | (go_simp; done) | (go_simp; with_reducible rfl) | (with_reducible rfl))
          try simp only [Act.put, List.setIfInBounds_toArray, List.set_cons_zero, List.set_cons_succ]
          refine wpAnyH_ready (rs := [7]) (by kernel_rfl) (by simp) ?_
          refine AllReadyH.cons (o := { dst := some 35, op := Op.call { callee := Callee.value (Operand.func 83), args := #[Operand.tmp 30, Operand.tmp 34], argTypes := #[33, 9] }, type := 4, pos := "l07_plan.go:87", after := #[{ on := 2, ground := Ground.data }, { on := 6, ground := Ground.data }, { on := 1, ground := Ground.chain }, { on := 1, ground := Ground.guard }], guard := some (1, true) }) rfl (fun K hK => ?_) AllReadyH.nil
          go_simp
          refine (named_b A c A2 c2 s key false hmb x0 _ (HNM.out.below (Below.refl w2.heap.size w2).drew (by omega)) (by show x0 ≤ w2.heap.size; omega) hl hl2).mono ?_
          rintro r w4 ⟨rfl, hb4'⟩
          have hb4 : Below w2.heap.size w2 w4 := (Below.refl _ _).drew.trans hb4'
          clear hb4'
          have C4 := Lib.hid (C2.out.below hb4 (by omega))
          have C4' := C4.out.ten
          have P4 : w4.cell? ⟨b1, o1 + k, none⟩ = some (.string key) := (hb4.cell (p := ⟨b1, o1 + k, none⟩) (by show b1 < w2.heap.size; omega)).trans P2
          have HO4 := Lib.hid (HO2.out.below hb4)
          have b4 : Below x0 w w4 := b2.trans (hb4.mono (by omega))
          have s4 : x0 + 1 < w4.heap.size := by have := hb4.size; omega
          go_wp2_with fail
          refine hK.out _ _ (⟨C4', P4⟩) (fun hHeld => ?_)
          clear hK K
          try simp only [Act.put, List.setIfInBounds_toArray, List.set_cons_zero, List.set_cons_succ]
          refine wpAnyH_take (i := 8) (oi := { dst := some 36, op := Op.unOp UnOp.not 4 (Operand.tmp 35), type := 4, pos := "l07_plan.go:87", after := #[{ on := 7, ground := Ground.data }, { on := 1, ground := Ground.guard }], guard := some (1, true) }) (v := ?vf8) rfl (by kernel_rfl) (by kernel_rfl) (by kernel_rfl) (fun _ _ _ h => h) (Or.inl ⟨by rfl, ?hyf8⟩) (by assumption) ?restf8
          case hyf8 => intro w hSw; (try dsimp only at hSw); (obtain ⟨⟨q0, q1, q2, q3, q4, q5, q6, q7, q8, q9⟩, p0⟩ := hSw); (first | (go_simp; done) | (go_simp; with_reducible rfl) | (with_reducible rfl))
          try simp only [Act.put, List.setIfInBounds_toArray, List.set_cons_zero, List.set_cons_succ]
          refine wpAnyH_take (i := 9) (oi := { dst := some 37, op := Op.pick (Operand.tmp 29) (Operand.tmp 36) (Operand.const (Value.bool false)), type := 4, pos := "l07_plan.go:87", after := #[{ on := 1, ground := Ground.data }, { on := 8, ground := Ground.data }], guard := none }) (v := ?vf9) rfl (by kernel_rfl) (by kernel_rfl) (by kernel_rfl) (fun _ _ _ h => h) (Or.inl ⟨by rfl, ?hyf9⟩) (by assumption) ?restf9
          case hyf9 => intro w hSw; (try dsimp only at hSw); (obtain ⟨⟨q0, q1, q2, q3, q4, q5, q6, q7, q8, q9⟩, p0⟩ := hSw); (first | (go_simp; done) | (go_simp; with_reducible rfl) | (with_reducible rfl))
          try simp only [Act.put, List.setIfInBounds_toArray, List.set_cons_zero, List.set_cons_succ]
          refine wpAnyH_take (i := 10) (oi := { dst := some 38, op := Op.move (Operand.tmp 37), type := 4, pos := "l07_plan.go:87", after := #[{ on := 9, ground := Ground.data }, { on := 7, ground := Ground.chain }], guard := none }) (v := ?vf10) rfl (by kernel_rfl) (by kernel_rfl) (by kernel_rfl) (fun _ _ _ h => h) (Or.inl ⟨by rfl, ?hyf10⟩) (by assumption) ?restf10
          case hyf10 => intro w hSw; (try dsimp only at hSw); (obtain ⟨⟨q0, q1, q2, q3, q4, q5, q6, q7, q8, q9⟩, p0⟩ := hSw); (first | (go_simp; done) | (go_simp; with_reducible rfl) | (with_reducible rfl))
          try simp only [Act.put, List.setIfInBounds_toArray, List.set_cons_zero, List.set_cons_succ]
          refine wpAnyH_take (i := 11) (oi := { dst := some 39, op := Op.move (Operand.tmp 7), type := 3, pos := "l07_plan.go:87", after := #[{ on := 10, ground := Ground.guard }], guard := some (10, true) }) (v := ?vf11) rfl (by kernel_rfl) (by kernel_rfl) (by kernel_rfl) (fun _ _ _ h => h) (Or.inl ⟨by rfl, ?hyf11⟩) (by assumption) ?restf11
          case hyf11 => intro w hSw; (try dsimp only at hSw); (obtain ⟨⟨q0, q1, q2, q3, q4, q5, q6, q7, q8, q9⟩, p0⟩ := hSw); (first | (go_simp; done) | (go_simp; with_reducible rfl) | (with_reducible rfl))
          try simp only [Act.put, List.setIfInBounds_toArray, List.set_cons_zero, List.set_cons_succ]
          refine wpAnyH_take (i := 12) (oi := { dst := some 40, op := Op.binOp BinOp.eql 3 (Operand.tmp 39) (Operand.const (Value.int IntKind.i64 0)) 3, type := 4, pos := "l07_plan.go:87", after := #[{ on := 11, ground := Ground.data }, { on := 10, ground := Ground.guard }], guard := some (10, true) }) (v := ?vf12) rfl (by kernel_rfl) (by kernel_rfl) (by kernel_rfl) (fun _ _ _ h => h) (Or.inl ⟨by rfl, ?hyf12⟩) (by assumption) ?restf12
          case hyf12 => intro w hSw; (try dsimp only at hSw); (obtain ⟨⟨q0, q1, q2, q3, q4, q5, q6, q7, q8, q9⟩, p0⟩ := hSw); (first | (go_simp; done) | (go_simp; with_reducible rfl) | (with_reducible rfl))
          try simp only [Act.put, List.setIfInBounds_toArray, List.set_cons_zero, List.set_cons_succ]
          refine wpAnyH_take (i := 13) (oi := { dst := some 41, op := Op.move (Operand.tmp 40), type := 4, pos := "l07_plan.go:87", after := #[{ on := 12, ground := Ground.data }, { on := 10, ground := Ground.chain }, { on := 10, ground := Ground.guard }], guard := some (10, true) }) (v := ?vf13) rfl (by kernel_rfl) (by kernel_rfl) (by kernel_rfl) (fun _ _ _ h => h) (Or.inl ⟨by rfl, ?hyf13⟩) (by assumption) ?restf13
          case hyf13 => intro w hSw; (try dsimp only at hSw); (obtain ⟨⟨q0, q1, q2, q3, q4, q5, q6, q7, q8, q9⟩, p0⟩ := hSw); (first | (go_simp; done) | (go_simp; with_reducible rfl) | (with_reducible rfl))
          try simp only [Act.put, List.setIfInBounds_toArray, List.set_cons_zero, List.set_cons_succ]
          refine wpAnyH_take (i := 14) (oi := { dst := some 42, op := Op.move (Operand.tmp 8), type := 3, pos := "l07_plan.go:87", after := #[{ on := 13, ground := Ground.guard }], guard := some (13, true) }) (v := ?vf14) rfl (by kernel_rfl) (by kernel_rfl) (by kernel_rfl) (fun _ _ _ h => h) (Or.inl ⟨by rfl, ?hyf14⟩) (by assumption) ?restf14
          case hyf14 => intro w hSw; (try dsimp only at hSw); (obtain ⟨⟨q0, q1, q2, q3, q4, q5, q6, q7, q8, q9⟩, p0⟩ := hSw); (first | (go_simp; done) | (go_simp; with_reducible rfl) | (with_reducible rfl))
          try simp only [Act.put, List.setIfInBounds_toArray, List.set_cons_zero, List.set_cons_succ]
          refine wpAnyH_take (i := 15) (oi := { dst := some 43, op := Op.fieldAddr 33 (Operand.tmp 2) 0, type := 0, pos := "l07_plan.go:87", after := #[{ on := 13, ground := Ground.guard }], guard := some (13, true) }) (v := ?vf15) rfl (by kernel_rfl) (by kernel_rfl) (by kernel_rfl) (fun _ _ _ h => h) (Or.inl ⟨by rfl, ?hyf15⟩) (by assumption) ?restf15
          case hyf15 => intro w hSw; (try dsimp only at hSw); (obtain ⟨⟨q0, q1, q2, q3, q4, q5, q6, q7, q8, q9⟩, p0⟩ := hSw); (first | (go_simp; done) | (go_simp; with_reducible rfl) | (with_reducible rfl))
          try simp only [Act.put, List.setIfInBounds_toArray, List.set_cons_zero, List.set_cons_succ]
          refine wpAnyH_take (i := 16) (oi := { dst := some 44, op := Op.load 3 (Operand.tmp 43), type := 3, pos := "l07_plan.go:87", after := #[{ on := 15, ground := Ground.data }, { on := 13, ground := Ground.guard }], guard := some (13, true) }) (v := ?vf16) rfl (by kernel_rfl) (by kernel_rfl) (by kernel_rfl) (fun _ _ _ h => h) (Or.inl ⟨by rfl, ?hyf16⟩) (by assumption) ?restf16
          case hyf16 => intro w hSw; (try dsimp only at hSw); (obtain ⟨⟨q0, q1, q2, q3, q4, q5, q6, q7, q8, q9⟩, p0⟩ := hSw); (first | (go_simp; done) | (go_simp; with_reducible rfl) | (with_reducible rfl))
          try simp only [Act.put, List.setIfInBounds_toArray, List.set_cons_zero, List.set_cons_succ]
          refine wpAnyH_take (i := 17) (oi := { dst := some 45, op := Op.binOp BinOp.leq 3 (Operand.tmp 42) (Operand.tmp 44) 3, type := 4, pos := "l07_plan.go:87", after := #[{ on := 14, ground := Ground.data }, { on := 16, ground := Ground.data }, { on := 13, ground := Ground.guard }], guard := some (13, true) }) (v := ?vf17) rfl (by kernel_rfl) (by kernel_rfl) (by kernel_rfl) (fun _ _ _ h => h) (Or.inl ⟨by rfl, ?hyf17⟩) (by assumption) ?restf17
          case hyf17 => intro w hSw; (try dsimp only at hSw); (obtain ⟨⟨q0, q1, q2, q3, q4, q5, q6, q7, q8, q9⟩, p0⟩ := hSw); (first | (go_simp; done) | (go_simp; with_reducible rfl) | (with_reducible rfl))
          try simp only [Act.put, List.setIfInBounds_toArray, List.set_cons_zero, List.set_cons_succ]
          refine wpAnyH_take (i := 18) (oi := { dst := some 46, op := Op.pick (Operand.tmp 41) (Operand.tmp 45) (Operand.const (Value.bool false)), type := 4, pos := "l07_plan.go:87", after := #[{ on := 13, ground := Ground.data }, { on := 17, ground := Ground.data }, { on := 10, ground := Ground.guard }], guard := some (10, true) }) (v := ?vf18) rfl (by kernel_rfl) (by kernel_rfl) (by kernel_rfl) (fun _ _ _ h => h) (Or.inl ⟨by rfl, ?hyf18⟩) (by assumption) ?restf18
          case hyf18 => intro w hSw; (try dsimp only at hSw); (obtain ⟨⟨q0, q1, q2, q3, q4, q5, q6, q7, q8, q9⟩, p0⟩ := hSw); (first | (go_simp; done) | (go_simp; with_reducible rfl) | (with_reducible rfl))
          try simp only [Act.put, List.setIfInBounds_toArray, List.set_cons_zero, List.set_cons_succ]
          refine wpAnyH_take (i := 19) (oi := { dst := some 47, op := Op.move (Operand.tmp 46), type := 4, pos := "l07_plan.go:87", after := #[{ on := 18, ground := Ground.data }, { on := 13, ground := Ground.chain }, { on := 10, ground := Ground.guard }], guard := some (10, true) }) (v := ?vf19) rfl (by kernel_rfl) (by kernel_rfl) (by kernel_rfl) (fun _ _ _ h => h) (Or.inl ⟨by rfl, ?hyf19⟩) (by assumption) ?restf19
          case hyf19 => intro w hSw; (try dsimp only at hSw); (obtain ⟨⟨q0, q1, q2, q3, q4, q5, q6, q7, q8, q9⟩, p0⟩ := hSw); (first | (go_simp; done) | (go_simp; with_reducible rfl) | (with_reducible rfl))
          try simp only [Act.put, List.setIfInBounds_toArray, List.set_cons_zero, List.set_cons_succ]
          refine wpAnyH_take (i := 20) (oi := { dst := some 48, op := Op.move (Operand.tmp 7), type := 3, pos := "l07_plan.go:87", after := #[{ on := 19, ground := Ground.guard }], guard := some (19, false) }) (v := undef) rfl (by kernel_rfl) (by kernel_rfl) (by kernel_rfl) (fun _ _ _ h => h) (Or.inr ⟨by rfl, rfl⟩) (by assumption) ?_
          try simp only [Act.put, List.setIfInBounds_toArray, List.set_cons_zero, List.set_cons_succ]
          refine wpAnyH_take (i := 21) (oi := { dst := some 49, op := Op.binOp BinOp.gtr 3 (Operand.tmp 48) (Operand.const (Value.int IntKind.i64 0)) 3, type := 4, pos := "l07_plan.go:87", after := #[{ on := 20, ground := Ground.data }, { on := 19, ground := Ground.guard }], guard := some (19, false) }) (v := undef) rfl (by kernel_rfl) (by kernel_rfl) (by kernel_rfl) (fun _ _ _ h => h) (Or.inr ⟨by rfl, rfl⟩) (by assumption) ?_
          try simp only [Act.put, List.setIfInBounds_toArray, List.set_cons_zero, List.set_cons_succ]
          refine wpAnyH_take (i := 22) (oi := { dst := some 50, op := Op.move (Operand.tmp 49), type := 4, pos := "l07_plan.go:87", after := #[{ on := 21, ground := Ground.data }, { on := 19, ground := Ground.chain }, { on := 19, ground := Ground.guard }], guard := some (19, false) }) (v := undef) rfl (by kernel_rfl) (by kernel_rfl) (by kernel_rfl) (fun _ _ _ h => h) (Or.inr ⟨by rfl, rfl⟩) (by assumption) ?_
          try simp only [Act.put, List.setIfInBounds_toArray, List.set_cons_zero, List.set_cons_succ]
          refine wpAnyH_take (i := 23) (oi := { dst := some 51, op := Op.move (Operand.tmp 9), type := 3, pos := "l07_plan.go:87", after := #[{ on := 22, ground := Ground.guard }], guard := some (22, true) }) (v := undef) rfl (by kernel_rfl) (by kernel_rfl) (by kernel_rfl) (fun _ _ _ h => h) (Or.inr ⟨by rfl, rfl⟩) (by assumption) ?_
          try simp only [Act.put, List.setIfInBounds_toArray, List.set_cons_zero, List.set_cons_succ]
          refine wpAnyH_take (i := 24) (oi := { dst := some 52, op := Op.fieldAddr 33 (Operand.tmp 2) 1, type := 0, pos := "l07_plan.go:87", after := #[{ on := 22, ground := Ground.guard }], guard := some (22, true) }) (v := undef) rfl (by kernel_rfl) (by kernel_rfl) (by kernel_rfl) (fun _ _ _ h => h) (Or.inr ⟨by rfl, rfl⟩) (by assumption) ?_
          try simp only [Act.put, List.setIfInBounds_toArray, List.set_cons_zero, List.set_cons_succ]
          refine wpAnyH_take (i := 25) (oi := { dst := some 53, op := Op.load 3 (Operand.tmp 52), type := 3, pos := "l07_plan.go:87", after := #[{ on := 24, ground := Ground.data }, { on := 22, ground := Ground.guard }], guard := some (22, true) }) (v := undef) rfl (by kernel_rfl) (by kernel_rfl) (by kernel_rfl) (fun _ _ _ h => h) (Or.inr ⟨by rfl, rfl⟩) (by assumption) ?_
          try simp only [Act.put, List.setIfInBounds_toArray, List.set_cons_zero, List.set_cons_succ]
          refine wpAnyH_take (i := 26) (oi := { dst := some 54, op := Op.binOp BinOp.lss 3 (Operand.tmp 51) (Operand.tmp 53) 3, type := 4, pos := "l07_plan.go:87", after := #[{ on := 23, ground := Ground.data }, { on := 25, ground := Ground.data }, { on := 22, ground := Ground.guard }], guard := some (22, true) }) (v := undef) rfl (by kernel_rfl) (by kernel_rfl) (by kernel_rfl) (fun _ _ _ h => h) (Or.inr ⟨by rfl, rfl⟩) (by assumption) ?_
          try simp only [Act.put, List.setIfInBounds_toArray, List.set_cons_zero, List.set_cons_succ]
          refine wpAnyH_take (i := 27) (oi := { dst := some 55, op := Op.pick (Operand.tmp 50) (Operand.tmp 54) (Operand.const (Value.bool false)), type := 4, pos := "l07_plan.go:87", after := #[{ on := 22, ground := Ground.data }, { on := 26, ground := Ground.data }, { on := 19, ground := Ground.guard }], guard := some (19, false) }) (v := undef) rfl (by kernel_rfl) (by kernel_rfl) (by kernel_rfl) (fun _ _ _ h => h) (Or.inr ⟨by rfl, rfl⟩) (by assumption) ?_
          try simp only [Act.put, List.setIfInBounds_toArray, List.set_cons_zero, List.set_cons_succ]
          refine wpAnyH_take (i := 28) (oi := { dst := some 56, op := Op.pick (Operand.tmp 47) (Operand.const (Value.bool true)) (Operand.tmp 55), type := 4, pos := "l07_plan.go:87", after := #[{ on := 19, ground := Ground.data }, { on := 27, ground := Ground.data }, { on := 10, ground := Ground.guard }], guard := some (10, true) }) (v := ?vf28) rfl (by kernel_rfl) (by kernel_rfl) (by kernel_rfl) (fun _ _ _ h => h) (Or.inl ⟨by rfl, ?hyf28⟩) (by assumption) ?restf28
          case hyf28 => intro w hSw; (try dsimp only at hSw); (obtain ⟨⟨q0, q1, q2, q3, q4, q5, q6, q7, q8, q9⟩, p0⟩ := hSw); (first | (go_simp; done) | (go_simp; with_reducible rfl) | (with_reducible rfl))
          try simp only [Act.put, List.setIfInBounds_toArray, List.set_cons_zero, List.set_cons_succ]
          refine wpAnyH_take (i := 29) (oi := { dst := some 57, op := Op.pick (Operand.tmp 38) (Operand.tmp 56) (Operand.const (Value.bool false)), type := 4, pos := "l07_plan.go:87", after := #[{ on := 10, ground := Ground.data }, { on := 28, ground := Ground.data }], guard := none }) (v := ?vf29) rfl (by kernel_rfl) (by kernel_rfl) (by kernel_rfl) (fun _ _ _ h => h) (Or.inl ⟨by rfl, ?hyf29⟩) (by assumption) ?restf29
          case hyf29 => intro w hSw; (try dsimp only at hSw); (obtain ⟨⟨q0, q1, q2, q3, q4, q5, q6, q7, q8, q9⟩, p0⟩ := hSw); (first | (go_simp; done) | (go_simp; with_reducible rfl) | (with_reducible rfl))
          try simp only [Act.put, List.setIfInBounds_toArray, List.set_cons_zero, List.set_cons_succ]
          refine wpAnyH_done (by kernel_rfl) ?_ _
          refine NoPanic.normal ?_
          clear hHeld CS hb4 C4'
          have sz : x0 + 1 ≤ w4.heap.size := Nat.le_of_lt s4
          have hO5 := HO4.out.below (bal (Below.refl _ w4) (.cells #[.string key] 9))
          have HO5 := Lib.hid hO5; clear hO5
          have HNw := Lib.hid (new_cx w4 key 9)
          have Hb5 := Lib.hid (b4.alloc (show x0 ≤ w4.heap.size by omega) (.cells #[.string key] 9))
          have C5 := Lib.hid (C4.out.below (bal (Below.refl _ w4) (.cells #[.string key] 9)) (by omega))
          clear HO4
          go_wp2_with (at_builtin; refine wpList_append_sl cxV 1 16 (fun _ => rfl) cxV_one 49 9 _ infoCx rfl (by omega) Tryd.underlying49 rfl _ _ rfl (x0 + 1) ps [key] (.slice Av ps.length cv) rfl HO5.out (some ⟨w4.heap.size, 0, none⟩) 1 (w4.heap.size + 1) rfl HNw.out (by simp [maxLen]; omega) (by simp; omega) (by simp; omega) ?_; intro v' w6 hO6 hg6 _; obtain ⟨A6, c6, rfl⟩ := hO6.form; have HO6 := Lib.hid hO6; clear hO6; have Hg6 := Lib.hid hg6; clear hg6)
          have hb6 : Below (x0 + 1) (w4.alloc (.cells #[.string key] 9)) w6 := below_of_grown Hg6.out (by simp; omega) (fun g e => (World.ownsRow.lt HO5.out g e).1)
          have b6 : Below x0 w w6 := Hb5.out.trans (hb6.mono (by omega))
          have C6 := Lib.hid (C5.out.below hb6 (by omega))
          have s6 : x0 + 1 < w6.heap.size := by have := hb6.size; simp at this; omega
          go_roundw
          case rel => exact ⟨k + 1, A6, c6, by omega, by go_num, by rw [E.out]; simp, by rw [E.out]; exact HO6, C6, Lib.hid s6, b6⟩
          case measure => simp [intOf]; omega
        · have dd : decide (n ≤ s.sq) = false := by simpa using hn
          have E := Lib.hid (HNO.out (Bool.eq_false_iff.2 fun h => hn (HPI2.out.1 (orphB_iff.1 h).2)))
          clear HY HNO HPI HPI2 hn
          refine wp_region_noPanic ?_
          refine wp_region_held_drew (S := (fun w' => (w'.cell? ⟨x0, 0, none⟩ = some (.int .i64 s.sq) ∧ w'.cell? ⟨x0, 1, none⟩ = some (.int .i64 s.fe) ∧ w'.cell? ⟨x0, 2, none⟩ = some (.slice A s.ents.length c) ∧ w'.cell? ⟨x0, 3, none⟩ = some (.slice A2 s.tmbs.length c2) ∧ w'.cell? ⟨x0, 4, none⟩ = some (.int .i64 s.lo.a) ∧ w'.cell? ⟨x0, 5, none⟩ = some (.int .i64 s.lo.b) ∧ w'.cell? ⟨x0, 6, none⟩ = some (.int .i64 s.lo.c) ∧ w'.cell? ⟨x0, 7, none⟩ = some (.int .i64 s.hi.a) ∧ w'.cell? ⟨x0, 8, none⟩ = some (.int .i64 s.hi.b) ∧ w'.cell? ⟨x0, 9, none⟩ = some (.int .i64 s.hi.c)) ∧ w'.cell? ⟨b1, o1 + k, none⟩ = some (.string key))) (by kernel_rfl) (⟨CS, P2⟩) (fun hHeld => ?_)
          refine wpAnyH_take (i := 0) (oi := { dst := some 28, op := Op.move (Operand.tmp 10), type := 4, pos := "l07_plan.go:87", after := #[], guard := none }) (v := ?vg0) rfl (by kernel_rfl) (by kernel_rfl) (by kernel_rfl) (fun _ _ _ h => h) (Or.inl ⟨by rfl, ?hyg0⟩) (by assumption) ?restg0
          case hyg0 => intro w hSw; (try dsimp only at hSw); (obtain ⟨⟨q0, q1, q2, q3, q4, q5, q6, q7, q8, q9⟩, p0⟩ := hSw); (first | (go_simp; done) | (go_simp; with_reducible rfl) | (with_reducible rfl))
          try simp only [Act.put, List.setIfInBounds_toArray, List.set_cons_zero, List.set_cons_succ]
          refine wpAnyH_take (i := 1) (oi := { dst := some 29, op := Op.move (Operand.tmp 28), type := 4, pos := "l07_plan.go:87", after := #[{ on := 0, ground := Ground.data }], guard := none }) (v := ?vg1) rfl (by kernel_rfl) (by kernel_rfl) (by kernel_rfl) (fun _ _ _ h => h) (Or.inl ⟨by rfl, ?hyg1⟩) (by assumption) ?restg1
          case hyg1 => intro w hSw; (try dsimp only at hSw); (obtain ⟨⟨q0, q1, q2, q3, q4, q5, q6, q7, q8, q9⟩, p0⟩ := hSw); (first | (go_simp; done) | (go_simp; with_reducible rfl) | (with_reducible rfl))
          try simp only [Act.put, List.setIfInBounds_toArray, List.set_cons_zero, List.set_cons_succ]
          refine wpAnyH_take (i := 2) (oi := { dst := some 30, op := Op.load 33 (Operand.tmp 2), type := 33, pos := "l07_plan.go:87", after := #[{ on := 1, ground := Ground.guard }], guard := some (1, true) }) (v := ?vg2) rfl (by kernel_rfl) (by kernel_rfl) (by kernel_rfl) (fun _ _ _ h => h) (Or.inl ⟨by rfl, ?hyg2⟩) (by assumption) ?restg2
          case hyg2 => intro w hSw; (try dsimp only at hSw); (obtain ⟨⟨q0, q1, q2, q3, q4, q5, q6, q7, q8, q9⟩, p0⟩ := hSw); (first | (go_simp; done) | (go_simp; with_reducible rfl) | (with_reducible rfl))
          try simp only [Act.put, List.setIfInBounds_toArray, List.set_cons_zero, List.set_cons_succ]
          refine wpAnyH_take (i := 3) (oi := { dst := some 31, op := Op.move (Operand.tmp 1), type := 49, pos := "l07_plan.go:87", after := #[{ on := 1, ground := Ground.guard }], guard := some (1, true) }) (v := ?vg3) rfl (by kernel_rfl) (by kernel_rfl) (by kernel_rfl) (fun _ _ _ h => h) (Or.inl ⟨by rfl, ?hyg3⟩) (by assumption) ?restg3
          case hyg3 => intro w hSw; (try dsimp only at hSw); (obtain ⟨⟨q0, q1, q2, q3, q4, q5, q6, q7, q8, q9⟩, p0⟩ := hSw); (first | (go_simp; done) | (go_simp; with_reducible rfl) | (with_reducible rfl))
          try simp only [Act.put, List.setIfInBounds_toArray, List.set_cons_zero, List.set_cons_succ]
          refine wpAnyH_take (i := 4) (oi := { dst := some 32, op := Op.move (Operand.tmp 6), type := 3, pos := "l07_plan.go:87", after := #[{ on := 1, ground := Ground.guard }], guard := some (1, true) }) (v := ?vg4) rfl (by kernel_rfl) (by kernel_rfl) (by kernel_rfl) (fun _ _ _ h => h) (Or.inl ⟨by rfl, ?hyg4⟩) (by assumption) ?restg4
          case hyg4 => intro w hSw; (try dsimp only at hSw); (obtain ⟨⟨q0, q1, q2, q3, q4, q5, q6, q7, q8, q9⟩, p0⟩ := hSw); (first | (go_simp; done) | (go_simp; with_reducible rfl) | (with_reducible rfl))
          try simp only [Act.put, List.setIfInBounds_toArray, List.set_cons_zero, List.set_cons_succ]
          refine wpAnyH_take (i := 5) (oi := { dst := some 33, op := Op.indexAddr 49 (Operand.tmp 31) (Operand.tmp 32), type := 0, pos := "l07_plan.go:87", after := #[{ on := 3, ground := Ground.data }, { on := 4, ground := Ground.data }, { on := 1, ground := Ground.guard }], guard := some (1, true) }) (v := ?vg5) rfl (by kernel_rfl) (by kernel_rfl) (by kernel_rfl) (fun _ _ _ h => h) (Or.inl ⟨by rfl, ?hyg5⟩) (by assumption) ?restg5
          case hyg5 => intro w hSw; (try dsimp only at hSw); (obtain ⟨⟨q0, q1, q2, q3, q4, q5, q6, q7, q8, q9⟩, p0⟩ := hSw); (first | (go_simp; done) | (go_simp; with_reducible rfl) | (with_reducible rfl))
          try simp only [Act.put, List.setIfInBounds_toArray, List.set_cons_zero, List.set_cons_succ]
          refine wpAnyH_take (i := 6) (oi := { dst := some 34, op := Op.load 9 (Operand.tmp 33), type := 9, pos := "l07_plan.go:87", after := #[{ on := 5, ground := Ground.data }, { on := 1, ground := Ground.guard }], guard := some (1, true) }) (v := ?vg6) rfl (by kernel_rfl) (by kernel_rfl) (by kernel_rfl) (fun _ _ _ h => h) (Or.inl ⟨by rfl, ?hyg6⟩) (by assumption) ?restg6
          case hyg6 => intro w hSw; (try dsimp only at hSw); (obtain ⟨⟨q0, q1, q2, q3, q4, q5, q6, q7, q8, q9⟩, p0⟩ := hSw); (first | (go_simp; done) | (go_simp; with_reducible rfl) | (with_reducible rfl))
          try simp only [Act.put, List.setIfInBounds_toArray, List.set_cons_zero, List.set_cons_succ]
          refine wpAnyH_ready (rs := [7]) (by kernel_rfl) (by simp) ?_
          refine AllReadyH.cons (o := { dst := some 35, op := Op.call { callee := Callee.value (Operand.func 83), args := #[Operand.tmp 30, Operand.tmp 34], argTypes := #[33, 9] }, type := 4, pos := "l07_plan.go:87", after := #[{ on := 2, ground := Ground.data }, { on := 6, ground := Ground.data }, { on := 1, ground := Ground.chain }, { on := 1, ground := Ground.guard }], guard := some (1, true) }) rfl (fun K hK => ?_) AllReadyH.nil
          go_simp
          refine (named_b A c A2 c2 s key false hmb x0 _ (HNM.out.below (Below.refl w2.heap.size w2).drew (by omega)) (by show x0 ≤ w2.heap.size; omega) hl hl2).mono ?_
          rintro r w4 ⟨rfl, hb4'⟩
          have hb4 : Below w2.heap.size w2 w4 := (Below.refl _ _).drew.trans hb4'
          clear hb4'
          have C4 := Lib.hid (C2.out.below hb4 (by omega))
          have C4' := C4.out.ten
          have P4 : w4.cell? ⟨b1, o1 + k, none⟩ = some (.string key) := (hb4.cell (p := ⟨b1, o1 + k, none⟩) (by show b1 < w2.heap.size; omega)).trans P2
          have HO4 := Lib.hid (HO2.out.below hb4)
          have b4 : Below x0 w w4 := b2.trans (hb4.mono (by omega))
          have s4 : x0 + 1 < w4.heap.size := by have := hb4.size; omega
          go_wp2_with fail
          refine hK.out _ _ (⟨C4', P4⟩) (fun hHeld => ?_)
          clear hK K
          try simp only [Act.put, List.setIfInBounds_toArray, List.set_cons_zero, List.set_cons_succ]
          refine wpAnyH_take (i := 8) (oi := { dst := some 36, op := Op.unOp UnOp.not 4 (Operand.tmp 35), type := 4, pos := "l07_plan.go:87", after := #[{ on := 7, ground := Ground.data }, { on := 1, ground := Ground.guard }], guard := some (1, true) }) (v := ?vg8) rfl (by kernel_rfl) (by kernel_rfl) (by kernel_rfl) (fun _ _ _ h => h) (Or.inl ⟨by rfl, ?hyg8⟩) (by assumption) ?restg8
          case hyg8 => intro w hSw; (try dsimp only at hSw); (obtain ⟨⟨q0, q1, q2, q3, q4, q5, q6, q7, q8, q9⟩, p0⟩ := hSw); (first | (go_simp; done) | (go_simp; with_reducible rfl) | (with_reducible rfl))
          try simp only [Act.put, List.setIfInBounds_toArray, List.set_cons_zero, List.set_cons_succ]
          refine wpAnyH_take (i := 9) (oi := { dst := some 37, op := Op.pick (Operand.tmp 29) (Operand.tmp 36) (Operand.const (Value.bool false)), type := 4, pos := "l07_plan.go:87", after := #[{ on := 1, ground := Ground.data }, { on := 8, ground := Ground.data }], guard := none }) (v := ?vg9) rfl (by kernel_rfl) (by kernel_rfl) (by kernel_rfl) (fun _ _ _ h => h) (Or.inl ⟨by rfl, ?hyg9⟩) (by assumption) ?restg9
          case hyg9 => intro w hSw; (try dsimp only at hSw); (obtain ⟨⟨q0, q1, q2, q3, q4, q5, q6, q7, q8, q9⟩, p0⟩ := hSw); (first | (go_simp; done) | (go_simp; with_reducible rfl) | (with_reducible rfl))
          try simp only [Act.put, List.setIfInBounds_toArray, List.set_cons_zero, List.set_cons_succ]
          refine wpAnyH_take (i := 10) (oi := { dst := some 38, op := Op.move (Operand.tmp 37), type := 4, pos := "l07_plan.go:87", after := #[{ on := 9, ground := Ground.data }, { on := 7, ground := Ground.chain }], guard := none }) (v := ?vg10) rfl (by kernel_rfl) (by kernel_rfl) (by kernel_rfl) (fun _ _ _ h => h) (Or.inl ⟨by rfl, ?hyg10⟩) (by assumption) ?restg10
          case hyg10 => intro w hSw; (try dsimp only at hSw); (obtain ⟨⟨q0, q1, q2, q3, q4, q5, q6, q7, q8, q9⟩, p0⟩ := hSw); (first | (go_simp; done) | (go_simp; with_reducible rfl) | (with_reducible rfl))
          try simp only [Act.put, List.setIfInBounds_toArray, List.set_cons_zero, List.set_cons_succ]
          refine wpAnyH_take (i := 11) (oi := { dst := some 39, op := Op.move (Operand.tmp 7), type := 3, pos := "l07_plan.go:87", after := #[{ on := 10, ground := Ground.guard }], guard := some (10, true) }) (v := ?vg11) rfl (by kernel_rfl) (by kernel_rfl) (by kernel_rfl) (fun _ _ _ h => h) (Or.inl ⟨by rfl, ?hyg11⟩) (by assumption) ?restg11
          case hyg11 => intro w hSw; (try dsimp only at hSw); (obtain ⟨⟨q0, q1, q2, q3, q4, q5, q6, q7, q8, q9⟩, p0⟩ := hSw); (first | (go_simp; done) | (go_simp; with_reducible rfl) | (with_reducible rfl))
          try simp only [Act.put, List.setIfInBounds_toArray, List.set_cons_zero, List.set_cons_succ]
          refine wpAnyH_take (i := 12) (oi := { dst := some 40, op := Op.binOp BinOp.eql 3 (Operand.tmp 39) (Operand.const (Value.int IntKind.i64 0)) 3, type := 4, pos := "l07_plan.go:87", after := #[{ on := 11, ground := Ground.data }, { on := 10, ground := Ground.guard }], guard := some (10, true) }) (v := ?vg12) rfl (by kernel_rfl) (by kernel_rfl) (by kernel_rfl) (fun _ _ _ h => h) (Or.inl ⟨by rfl, ?hyg12⟩) (by assumption) ?restg12
          case hyg12 => intro w hSw; (try dsimp only at hSw); (obtain ⟨⟨q0, q1, q2, q3, q4, q5, q6, q7, q8, q9⟩, p0⟩ := hSw); (first | (go_simp; done) | (go_simp; with_reducible rfl) | (with_reducible rfl))
          try simp only [Act.put, List.setIfInBounds_toArray, List.set_cons_zero, List.set_cons_succ]
          refine wpAnyH_take (i := 13) (oi := { dst := some 41, op := Op.move (Operand.tmp 40), type := 4, pos := "l07_plan.go:87", after := #[{ on := 12, ground := Ground.data }, { on := 10, ground := Ground.chain }, { on := 10, ground := Ground.guard }], guard := some (10, true) }) (v := ?vg13) rfl (by kernel_rfl) (by kernel_rfl) (by kernel_rfl) (fun _ _ _ h => h) (Or.inl ⟨by rfl, ?hyg13⟩) (by assumption) ?restg13
          case hyg13 => intro w hSw; (try dsimp only at hSw); (obtain ⟨⟨q0, q1, q2, q3, q4, q5, q6, q7, q8, q9⟩, p0⟩ := hSw); (first | (go_simp; done) | (go_simp; with_reducible rfl) | (with_reducible rfl))
          try simp only [Act.put, List.setIfInBounds_toArray, List.set_cons_zero, List.set_cons_succ]
          refine wpAnyH_take (i := 14) (oi := { dst := some 42, op := Op.move (Operand.tmp 8), type := 3, pos := "l07_plan.go:87", after := #[{ on := 13, ground := Ground.guard }], guard := some (13, true) }) (v := ?vg14) rfl (by kernel_rfl) (by kernel_rfl) (by kernel_rfl) (fun _ _ _ h => h) (Or.inl ⟨by rfl, ?hyg14⟩) (by assumption) ?restg14
          case hyg14 => intro w hSw; (try dsimp only at hSw); (obtain ⟨⟨q0, q1, q2, q3, q4, q5, q6, q7, q8, q9⟩, p0⟩ := hSw); (first | (go_simp; done) | (go_simp; with_reducible rfl) | (with_reducible rfl))
          try simp only [Act.put, List.setIfInBounds_toArray, List.set_cons_zero, List.set_cons_succ]
          refine wpAnyH_take (i := 15) (oi := { dst := some 43, op := Op.fieldAddr 33 (Operand.tmp 2) 0, type := 0, pos := "l07_plan.go:87", after := #[{ on := 13, ground := Ground.guard }], guard := some (13, true) }) (v := ?vg15) rfl (by kernel_rfl) (by kernel_rfl) (by kernel_rfl) (fun _ _ _ h => h) (Or.inl ⟨by rfl, ?hyg15⟩) (by assumption) ?restg15
          case hyg15 => intro w hSw; (try dsimp only at hSw); (obtain ⟨⟨q0, q1, q2, q3, q4, q5, q6, q7, q8, q9⟩, p0⟩ := hSw); (first | (go_simp; done) | (go_simp; with_reducible rfl) | (with_reducible rfl))
          try simp only [Act.put, List.setIfInBounds_toArray, List.set_cons_zero, List.set_cons_succ]
          refine wpAnyH_take (i := 16) (oi := { dst := some 44, op := Op.load 3 (Operand.tmp 43), type := 3, pos := "l07_plan.go:87", after := #[{ on := 15, ground := Ground.data }, { on := 13, ground := Ground.guard }], guard := some (13, true) }) (v := ?vg16) rfl (by kernel_rfl) (by kernel_rfl) (by kernel_rfl) (fun _ _ _ h => h) (Or.inl ⟨by rfl, ?hyg16⟩) (by assumption) ?restg16
          case hyg16 => intro w hSw; (try dsimp only at hSw); (obtain ⟨⟨q0, q1, q2, q3, q4, q5, q6, q7, q8, q9⟩, p0⟩ := hSw); (first | (go_simp; done) | (go_simp; with_reducible rfl) | (with_reducible rfl))
          try simp only [Act.put, List.setIfInBounds_toArray, List.set_cons_zero, List.set_cons_succ]
          refine wpAnyH_take (i := 17) (oi := { dst := some 45, op := Op.binOp BinOp.leq 3 (Operand.tmp 42) (Operand.tmp 44) 3, type := 4, pos := "l07_plan.go:87", after := #[{ on := 14, ground := Ground.data }, { on := 16, ground := Ground.data }, { on := 13, ground := Ground.guard }], guard := some (13, true) }) (v := ?vg17) rfl (by kernel_rfl) (by kernel_rfl) (by kernel_rfl) (fun _ _ _ h => h) (Or.inl ⟨by rfl, ?hyg17⟩) (by assumption) ?restg17
          case hyg17 => intro w hSw; (try dsimp only at hSw); (obtain ⟨⟨q0, q1, q2, q3, q4, q5, q6, q7, q8, q9⟩, p0⟩ := hSw); (first | (go_simp; done) | (go_simp; with_reducible rfl) | (with_reducible rfl))
          try simp only [Act.put, List.setIfInBounds_toArray, List.set_cons_zero, List.set_cons_succ]
          refine wpAnyH_take (i := 18) (oi := { dst := some 46, op := Op.pick (Operand.tmp 41) (Operand.tmp 45) (Operand.const (Value.bool false)), type := 4, pos := "l07_plan.go:87", after := #[{ on := 13, ground := Ground.data }, { on := 17, ground := Ground.data }, { on := 10, ground := Ground.guard }], guard := some (10, true) }) (v := ?vg18) rfl (by kernel_rfl) (by kernel_rfl) (by kernel_rfl) (fun _ _ _ h => h) (Or.inl ⟨by rfl, ?hyg18⟩) (by assumption) ?restg18
          case hyg18 => intro w hSw; (try dsimp only at hSw); (obtain ⟨⟨q0, q1, q2, q3, q4, q5, q6, q7, q8, q9⟩, p0⟩ := hSw); (first | (go_simp; done) | (go_simp; with_reducible rfl) | (with_reducible rfl))
          try simp only [Act.put, List.setIfInBounds_toArray, List.set_cons_zero, List.set_cons_succ]
          refine wpAnyH_take (i := 19) (oi := { dst := some 47, op := Op.move (Operand.tmp 46), type := 4, pos := "l07_plan.go:87", after := #[{ on := 18, ground := Ground.data }, { on := 13, ground := Ground.chain }, { on := 10, ground := Ground.guard }], guard := some (10, true) }) (v := ?vg19) rfl (by kernel_rfl) (by kernel_rfl) (by kernel_rfl) (fun _ _ _ h => h) (Or.inl ⟨by rfl, ?hyg19⟩) (by assumption) ?restg19
          case hyg19 => intro w hSw; (try dsimp only at hSw); (obtain ⟨⟨q0, q1, q2, q3, q4, q5, q6, q7, q8, q9⟩, p0⟩ := hSw); (first | (go_simp; done) | (go_simp; with_reducible rfl) | (with_reducible rfl))
          try simp only [Act.put, List.setIfInBounds_toArray, List.set_cons_zero, List.set_cons_succ]
          refine wpAnyH_take (i := 20) (oi := { dst := some 48, op := Op.move (Operand.tmp 7), type := 3, pos := "l07_plan.go:87", after := #[{ on := 19, ground := Ground.guard }], guard := some (19, false) }) (v := ?vg20) rfl (by kernel_rfl) (by kernel_rfl) (by kernel_rfl) (fun _ _ _ h => h) (Or.inl ⟨by rfl, ?hyg20⟩) (by assumption) ?restg20
          case hyg20 => intro w hSw; (try dsimp only at hSw); (obtain ⟨⟨q0, q1, q2, q3, q4, q5, q6, q7, q8, q9⟩, p0⟩ := hSw); (first | (go_simp; done) | (go_simp; with_reducible rfl) | (with_reducible rfl))
          try simp only [Act.put, List.setIfInBounds_toArray, List.set_cons_zero, List.set_cons_succ]
          refine wpAnyH_take (i := 21) (oi := { dst := some 49, op := Op.binOp BinOp.gtr 3 (Operand.tmp 48) (Operand.const (Value.int IntKind.i64 0)) 3, type := 4, pos := "l07_plan.go:87", after := #[{ on := 20, ground := Ground.data }, { on := 19, ground := Ground.guard }], guard := some (19, false) }) (v := ?vg21) rfl (by kernel_rfl) (by kernel_rfl) (by kernel_rfl) (fun _ _ _ h => h) (Or.inl ⟨by rfl, ?hyg21⟩) (by assumption) ?restg21
          case hyg21 => intro w hSw; (try dsimp only at hSw); (obtain ⟨⟨q0, q1, q2, q3, q4, q5, q6, q7, q8, q9⟩, p0⟩ := hSw); (first | (go_simp; done) | (go_simp; with_reducible rfl) | (with_reducible rfl))
          try simp only [Act.put, List.setIfInBounds_toArray, List.set_cons_zero, List.set_cons_succ]
          refine wpAnyH_take (i := 22) (oi := { dst := some 50, op := Op.move (Operand.tmp 49), type := 4, pos := "l07_plan.go:87", after := #[{ on := 21, ground := Ground.data }, { on := 19, ground := Ground.chain }, { on := 19, ground := Ground.guard }], guard := some (19, false) }) (v := ?vg22) rfl (by kernel_rfl) (by kernel_rfl) (by kernel_rfl) (fun _ _ _ h => h) (Or.inl ⟨by rfl, ?hyg22⟩) (by assumption) ?restg22
          case hyg22 => intro w hSw; (try dsimp only at hSw); (obtain ⟨⟨q0, q1, q2, q3, q4, q5, q6, q7, q8, q9⟩, p0⟩ := hSw); (first | (go_simp; done) | (go_simp; with_reducible rfl) | (with_reducible rfl))
          try simp only [Act.put, List.setIfInBounds_toArray, List.set_cons_zero, List.set_cons_succ]
          refine wpAnyH_take (i := 23) (oi := { dst := some 51, op := Op.move (Operand.tmp 9), type := 3, pos := "l07_plan.go:87", after := #[{ on := 22, ground := Ground.guard }], guard := some (22, true) }) (v := undef) rfl (by kernel_rfl) (by kernel_rfl) (by kernel_rfl) (fun _ _ _ h => h) (Or.inr ⟨by rfl, rfl⟩) (by assumption) ?_
          try simp only [Act.put, List.setIfInBounds_toArray, List.set_cons_zero, List.set_cons_succ]
          refine wpAnyH_take (i := 24) (oi := { dst := some 52, op := Op.fieldAddr 33 (Operand.tmp 2) 1, type := 0, pos := "l07_plan.go:87", after := #[{ on := 22, ground := Ground.guard }], guard := some (22, true) }) (v := undef) rfl (by kernel_rfl) (by kernel_rfl) (by kernel_rfl) (fun _ _ _ h => h) (Or.inr ⟨by rfl, rfl⟩) (by assumption) ?_
          try simp only [Act.put, List.setIfInBounds_toArray, List.set_cons_zero, List.set_cons_succ]
          refine wpAnyH_take (i := 25) (oi := { dst := some 53, op := Op.load 3 (Operand.tmp 52), type := 3, pos := "l07_plan.go:87", after := #[{ on := 24, ground := Ground.data }, { on := 22, ground := Ground.guard }], guard := some (22, true) }) (v := undef) rfl (by kernel_rfl) (by kernel_rfl) (by kernel_rfl) (fun _ _ _ h => h) (Or.inr ⟨by rfl, rfl⟩) (by assumption) ?_
          try simp only [Act.put, List.setIfInBounds_toArray, List.set_cons_zero, List.set_cons_succ]
          refine wpAnyH_take (i := 26) (oi := { dst := some 54, op := Op.binOp BinOp.lss 3 (Operand.tmp 51) (Operand.tmp 53) 3, type := 4, pos := "l07_plan.go:87", after := #[{ on := 23, ground := Ground.data }, { on := 25, ground := Ground.data }, { on := 22, ground := Ground.guard }], guard := some (22, true) }) (v := undef) rfl (by kernel_rfl) (by kernel_rfl) (by kernel_rfl) (fun _ _ _ h => h) (Or.inr ⟨by rfl, rfl⟩) (by assumption) ?_
          try simp only [Act.put, List.setIfInBounds_toArray, List.set_cons_zero, List.set_cons_succ]
          refine wpAnyH_take (i := 27) (oi := { dst := some 55, op := Op.pick (Operand.tmp 50) (Operand.tmp 54) (Operand.const (Value.bool false)), type := 4, pos := "l07_plan.go:87", after := #[{ on := 22, ground := Ground.data }, { on := 26, ground := Ground.data }, { on := 19, ground := Ground.guard }], guard := some (19, false) }) (v := ?vg27) rfl (by kernel_rfl) (by kernel_rfl) (by kernel_rfl) (fun _ _ _ h => h) (Or.inl ⟨by rfl, ?hyg27⟩) (by assumption) ?restg27
          case hyg27 => intro w hSw; (try dsimp only at hSw); (obtain ⟨⟨q0, q1, q2, q3, q4, q5, q6, q7, q8, q9⟩, p0⟩ := hSw); (first | (go_simp; done) | (go_simp; with_reducible rfl) | (with_reducible rfl))
          try simp only [Act.put, List.setIfInBounds_toArray, List.set_cons_zero, List.set_cons_succ]
          refine wpAnyH_take (i := 28) (oi := { dst := some 56, op := Op.pick (Operand.tmp 47) (Operand.const (Value.bool true)) (Operand.tmp 55), type := 4, pos := "l07_plan.go:87", after := #[{ on := 19, ground := Ground.data }, { on := 27, ground := Ground.data }, { on := 10, ground := Ground.guard }], guard := some (10, true) }) (v := ?vg28) rfl (by kernel_rfl) (by kernel_rfl) (by kernel_rfl) (fun _ _ _ h => h) (Or.inl ⟨by rfl, ?hyg28⟩) (by assumption) ?restg28
          case hyg28 => intro w hSw; (try dsimp only at hSw); (obtain ⟨⟨q0, q1, q2, q3, q4, q5, q6, q7, q8, q9⟩, p0⟩ := hSw); (first | (go_simp; done) | (go_simp; with_reducible rfl) | (with_reducible rfl))
          try simp only [Act.put, List.setIfInBounds_toArray, List.set_cons_zero, List.set_cons_succ]
          refine wpAnyH_take (i := 29) (oi := { dst := some 57, op := Op.pick (Operand.tmp 38) (Operand.tmp 56) (Operand.const (Value.bool false)), type := 4, pos := "l07_plan.go:87", after := #[{ on := 10, ground := Ground.data }, { on := 28, ground := Ground.data }], guard := none }) (v := ?vg29) rfl (by kernel_rfl) (by kernel_rfl) (by kernel_rfl) (fun _ _ _ h => h) (Or.inl ⟨by rfl, ?hyg29⟩) (by assumption) ?restg29
          case hyg29 => intro w hSw; (try dsimp only at hSw); (obtain ⟨⟨q0, q1, q2, q3, q4, q5, q6, q7, q8, q9⟩, p0⟩ := hSw); (first | (go_simp; done) | (go_simp; with_reducible rfl) | (with_reducible rfl))
          try simp only [Act.put, List.setIfInBounds_toArray, List.set_cons_zero, List.set_cons_succ]
          refine wpAnyH_done (by kernel_rfl) ?_ _
          refine NoPanic.normal ?_
          clear hHeld CS hb4
          go_wp2_with fail
          go_roundw
          case rel => exact ⟨k + 1, Av, cv, by omega, by go_num, by rw [E.out], by rw [E.out]; exact HO4, C4, Lib.hid s4, b4⟩
          case measure => simp [intOf]; omega
      · have HPI2 : Hid (PastP s key ↔ m < s.fe) := Lib.hid (by rw [HPI.out]; simp [ht])
        have dt : (t == 0) = false := by simpa using ht
        have dg : decide (0 < t) = true := by simp; omega
        by_cases hn : m < s.fe
        · have dd : decide (m < s.fe) = true := by simpa using hn
          have E := Lib.hid (HY.out (orphB_iff.2 ⟨HMB.out, HPI2.out.2 hn⟩))
          clear HY HNO HPI HPI2 hn ht
          generalize orphs s ks k = ps at *
          refine wp_region_noPanic ?_
          refine wp_region_held_drew (S := (fun w' => (w'.cell? ⟨x0, 0, none⟩ = some (.int .i64 s.sq) ∧ w'.cell? ⟨x0, 1, none⟩ = some (.int .i64 s.fe) ∧ w'.cell? ⟨x0, 2, none⟩ = some (.slice A s.ents.length c) ∧ w'.cell? ⟨x0, 3, none⟩ = some (.slice A2 s.tmbs.length c2) ∧ w'.cell? ⟨x0, 4, none⟩ = some (.int .i64 s.lo.a) ∧ w'.cell? ⟨x0, 5, none⟩ = some (.int .i64 s.lo.b) ∧ w'.cell? ⟨x0, 6, none⟩ = some (.int .i64 s.lo.c) ∧ w'.cell? ⟨x0, 7, none⟩ = some (.int .i64 s.hi.a) ∧ w'.cell? ⟨x0, 8, none⟩ = some (.int .i64 s.hi.b) ∧ w'.cell? ⟨x0, 9, none⟩ = some (.int .i64 s.hi.c)) ∧ w'.cell? ⟨b1, o1 + k, none⟩ = some (.string key))) (by kernel_rfl) (⟨CS, P2⟩) (fun hHeld => ?_)
          refine wpAnyH_take (i := 0) (oi := { dst := some 28, op := Op.move (Operand.tmp 10), type := 4, pos := "l07_plan.go:87", after := #[], guard := none }) (v := ?vh0) rfl (by kernel_rfl) (by kernel_rfl) (by kernel_rfl) (fun _ _ _ h => h) (Or.inl ⟨by rfl, ?hyh0⟩) (by assumption) ?resth0
          case hyh0 => intro w hSw; (try dsimp only at hSw); (obtain ⟨⟨q0, q1, q2, q3, q4, q5, q6, q7, q8, q9⟩, p0⟩ := hSw); (first | (go_simp; done) | (go_simp; with_reducible rfl) | (with_reducible rfl))
          try simp only [Act.put, List.setIfInBounds_toArray, List.set_cons_zero, List.set_cons_succ]
          refine wpAnyH_take (i := 1) (oi := { dst := some 29, op := Op.move (Operand.tmp 28), type := 4, pos := "l07_plan.go:87", after := #[{ on := 0, ground := Ground.data }], guard := none }) (v := ?vh1) rfl (by kernel_rfl) (by kernel_rfl) (by kernel_rfl) (fun _ _ _ h => h) (Or.inl ⟨by rfl, ?hyh1⟩) (by assumption) ?resth1
          case hyh1 => intro w hSw; (try dsimp only at hSw); (obtain ⟨⟨q0, q1, q2, q3, q4, q5, q6, q7, q8, q9⟩, p0⟩ := hSw); (first | (go_simp; done) | (go_simp; with_reducible rfl) | (with_reducible rfl))
          try simp only [Act.put, List.setIfInBounds_toArray, List.set_cons_zero, List.set_cons_succ]
          refine wpAnyH_take (i := 2) (oi := { dst := some 30, op := Op.load 33 (Operand.tmp 2), type := 33, pos := "l07_plan.go:87", after := #[{ on := 1, ground := Ground.guard }], guard := some (1, true) }) (v := ?vh2) rfl (by kernel_rfl) (by kernel_rfl) (by kernel_rfl) (fun _ _ _ h => h) (Or.inl ⟨by rfl, ?hyh2⟩) (by assumption) ?resth2
          case hyh2 => intro w hSw; (try dsimp only at hSw); (obtain ⟨⟨q0, q1, q2, q3, q4, q5, q6, q7, q8, q9⟩, p0⟩ := hSw); (first | (go_simp; done) | (go_simp; with_reducible rfl) | (with_reducible rfl))
          try simp only [Act.put, List.setIfInBounds_toArray, List.set_cons_zero, List.set_cons_succ]
          refine wpAnyH_take (i := 3) (oi := { dst := some 31, op := Op.move (Operand.tmp 1), type := 49, pos := "l07_plan.go:87", after := #[{ on := 1, ground := Ground.guard }], guard := some (1, true) }) (v := ?vh3) rfl (by kernel_rfl) (by kernel_rfl) (by kernel_rfl) (fun _ _ _ h => h) (Or.inl ⟨by rfl, ?hyh3⟩) (by assumption) ?resth3
          case hyh3 => intro w hSw; (try dsimp only at hSw); (obtain ⟨⟨q0, q1, q2, q3, q4, q5, q6, q7, q8, q9⟩, p0⟩ := hSw); (first | (go_simp; done) | (go_simp; with_reducible rfl) | (with_reducible rfl))
          try simp only [Act.put, List.setIfInBounds_toArray, List.set_cons_zero, List.set_cons_succ]
          refine wpAnyH_take (i := 4) (oi := { dst := some 32, op := Op.move (Operand.tmp 6), type := 3, pos := "l07_plan.go:87", after := #[{ on := 1, ground := Ground.guard }], guard := some (1, true) }) (v := ?vh4) rfl (by kernel_rfl) (by kernel_rfl) (by kernel_rfl) (fun _ _ _ h => h) (Or.inl ⟨by rfl, ?hyh4⟩) (by assumption) ?resth4
          case hyh4 => intro w hSw; (try dsimp only at hSw); (obtain ⟨⟨q0, q1, q2, q3, q4, q5, q6, q7, q8, q9⟩, p0⟩ := hSw); (first | (go_simp; done) | (go_simp; with_reducible rfl) | (with_reducible rfl))
          try simp only [Act.put, List.setIfInBounds_toArray, List.set_cons_zero, List.set_cons_succ]
          refine wpAnyH_take (i := 5) (oi := { dst := some 33, op := Op.indexAddr 49 (Operand.tmp 31) (Operand.tmp 32), type := 0, pos := "l07_plan.go:87", after := #[{ on := 3, ground := Ground.data }, { on := 4, ground := Ground.data }, { on := 1, ground := Ground.guard }], guard := some (1, true) }) (v := ?vh5) rfl (by kernel_rfl) (by kernel_rfl) (by kernel_rfl) (fun _ _ _ h => h) (Or.inl ⟨by rfl, ?hyh5⟩) (by assumption) ?resth5
          case hyh5 => intro w hSw; (try dsimp only at hSw); (obtain ⟨⟨q0, q1, q2, q3, q4, q5, q6, q7, q8, q9⟩, p0⟩ := hSw); (first | (go_simp; done) | (go_simp; with_reducible rfl) | (with_reducible rfl))
          try simp only [Act.put, List.setIfInBounds_toArray, List.set_cons_zero, List.set_cons_succ]
          refine wpAnyH_take (i := 6) (oi := { dst := some 34, op := Op.load 9 (Operand.tmp 33), type := 9, pos := "l07_plan.go:87", after := #[{ on := 5, ground := Ground.data }, { on := 1, ground := Ground.guard }], guard := some (1, true) }) (v := ?vh6) rfl (by kernel_rfl) (by kernel_rfl) (by kernel_rfl) (fun _ _ _ h => h) (Or.inl ⟨by rfl, ?hyh6⟩) (by assumption) ?resth6
          case hyh6 => intro w hSw; (try dsimp only at hSw); (obtain ⟨⟨q0, q1, q2, q3, q4, q5, q6, q7, q8, q9⟩, p0⟩ := hSw); (first | (go_simp; done) | (go_simp; with_reducible rfl) | (with_reducible rfl))
          try simp only [Act.put, List.setIfInBounds_toArray, List.set_cons_zero, List.set_cons_succ]
          refine wpAnyH_ready (rs := [7]) (by kernel_rfl) (by simp) ?_
          refine AllReadyH.cons (o := { dst := some 35, op := Op.call { callee := Callee.value (Operand.func 83), args := #[Operand.tmp 30, Operand.tmp 34], argTypes := #[33, 9] }, type := 4, pos := "l07_plan.go:87", after := #[{ on := 2, ground := Ground.data }, { on := 6, ground := Ground.data }, { on := 1, ground := Ground.chain }, { on := 1, ground := Ground.guard }], guard := some (1, true) }) rfl (fun K hK => ?_) AllReadyH.nil
          go_simp
          refine (named_b A c A2 c2 s key false hmb x0 _ (HNM.out.below (Below.refl w2.heap.size w2).drew (by omega)) (by show x0 ≤ w2.heap.size; omega) hl hl2).mono ?_
          rintro r w4 ⟨rfl, hb4'⟩
          have hb4 : Below w2.heap.size w2 w4 := (Below.refl _ _).drew.trans hb4'
          clear hb4'
          have C4 := Lib.hid (C2.out.below hb4 (by omega))
          have C4' := C4.out.ten
          have P4 : w4.cell? ⟨b1, o1 + k, none⟩ = some (.string key) := (hb4.cell (p := ⟨b1, o1 + k, none⟩) (by show b1 < w2.heap.size; omega)).trans P2
          have HO4 := Lib.hid (HO2.out.below hb4)
          have b4 : Below x0 w w4 := b2.trans (hb4.mono (by omega))
          have s4 : x0 + 1 < w4.heap.size := by have := hb4.size; omega
          go_wp2_with fail
          refine hK.out _ _ (⟨C4', P4⟩) (fun hHeld => ?_)
          clear hK K
          try simp only [Act.put, List.setIfInBounds_toArray, List.set_cons_zero, List.set_cons_succ]
          refine wpAnyH_take (i := 8) (oi := { dst := some 36, op := Op.unOp UnOp.not 4 (Operand.tmp 35), type := 4, pos := "l07_plan.go:87", after := #[{ on := 7, ground := Ground.data }, { on := 1, ground := Ground.guard }], guard := some (1, true) }) (v := ?vh8) rfl (by kernel_rfl) (by kernel_rfl) (by kernel_rfl) (fun _ _ _ h => h) (Or.inl ⟨by rfl, ?hyh8⟩) (by assumption) ?resth8
          case hyh8 => intro w hSw; (try dsimp only at hSw); (obtain ⟨⟨q0, q1, q2, q3, q4, q5, q6, q7, q8, q9⟩, p0⟩ := hSw); (first | (go_simp; done) | (go_simp; with_reducible rfl) | (with_reducible rfl))
          try simp only [Act.put, List.setIfInBounds_toArray, List.set_cons_zero, List.set_cons_succ]
          refine wpAnyH_take (i := 9) (oi := { dst := some 37, op := Op.pick (Operand.tmp 29) (Operand.tmp 36) (Operand.const (Value.bool false)), type := 4, pos := "l07_plan.go:87", after := #[{ on := 1, ground := Ground.data }, { on := 8, ground := Ground.data }], guard := none }) (v := ?vh9) rfl (by kernel_rfl) (by kernel_rfl) (by kernel_rfl) (fun _ _ _ h => h) (Or.inl ⟨by rfl, ?hyh9⟩) (by assumption) ?resth9
          case hyh9 => intro w hSw; (try dsimp only at hSw); (obtain ⟨⟨q0, q1, q2, q3, q4, q5, q6, q7, q8, q9⟩, p0⟩ := hSw); (first | (go_simp; done) | (go_simp; with_reducible rfl) | (with_reducible rfl))
          try simp only [Act.put, List.setIfInBounds_toArray, List.set_cons_zero, List.set_cons_succ]
          refine wpAnyH_take (i := 10) (oi := { dst := some 38, op := Op.move (Operand.tmp 37), type := 4, pos := "l07_plan.go:87", after := #[{ on := 9, ground := Ground.data }, { on := 7, ground := Ground.chain }], guard := none }) (v := ?vh10) rfl (by kernel_rfl) (by kernel_rfl) (by kernel_rfl) (fun _ _ _ h => h) (Or.inl ⟨by rfl, ?hyh10⟩) (by assumption) ?resth10
          case hyh10 => intro w hSw; (try dsimp only at hSw); (obtain ⟨⟨q0, q1, q2, q3, q4, q5, q6, q7, q8, q9⟩, p0⟩ := hSw); (first | (go_simp; done) | (go_simp; with_reducible rfl) | (with_reducible rfl))
          try simp only [Act.put, List.setIfInBounds_toArray, List.set_cons_zero, List.set_cons_succ]
          refine wpAnyH_take (i := 11) (oi := { dst := some 39, op := Op.move (Operand.tmp 7), type := 3, pos := "l07_plan.go:87", after := #[{ on := 10, ground := Ground.guard }], guard := some (10, true) }) (v := ?vh11) rfl (by kernel_rfl) (by kernel_rfl) (by kernel_rfl) (fun _ _ _ h => h) (Or.inl ⟨by rfl, ?hyh11⟩) (by assumption) ?resth11
          case hyh11 => intro w hSw; (try dsimp only at hSw); (obtain ⟨⟨q0, q1, q2, q3, q4, q5, q6, q7, q8, q9⟩, p0⟩ := hSw); (first | (go_simp; done) | (go_simp; with_reducible rfl) | (with_reducible rfl))
          try simp only [Act.put, List.setIfInBounds_toArray, List.set_cons_zero, List.set_cons_succ]
          refine wpAnyH_take (i := 12) (oi := { dst := some 40, op := Op.binOp BinOp.eql 3 (Operand.tmp 39) (Operand.const (Value.int IntKind.i64 0)) 3, type := 4, pos := "l07_plan.go:87", after := #[{ on := 11, ground := Ground.data }, { on := 10, ground := Ground.guard }], guard := some (10, true) }) (v := ?vh12) rfl (by kernel_rfl) (by kernel_rfl) (by kernel_rfl) (fun _ _ _ h => h) (Or.inl ⟨by rfl, ?hyh12⟩) (by assumption) ?resth12
          case hyh12 => intro w hSw; (try dsimp only at hSw); (obtain ⟨⟨q0, q1, q2, q3, q4, q5, q6, q7, q8, q9⟩, p0⟩ := hSw); (first | (go_simp; done) | (go_simp; with_reducible rfl) | (with_reducible rfl))
          try simp only [Act.put, List.setIfInBounds_toArray, List.set_cons_zero, List.set_cons_succ]
          refine wpAnyH_take (i := 13) (oi := { dst := some 41, op := Op.move (Operand.tmp 40), type := 4, pos := "l07_plan.go:87", after := #[{ on := 12, ground := Ground.data }, { on := 10, ground := Ground.chain }, { on := 10, ground := Ground.guard }], guard := some (10, true) }) (v := ?vh13) rfl (by kernel_rfl) (by kernel_rfl) (by kernel_rfl) (fun _ _ _ h => h) (Or.inl ⟨by rfl, ?hyh13⟩) (by assumption) ?resth13
          case hyh13 => intro w hSw; (try dsimp only at hSw); (obtain ⟨⟨q0, q1, q2, q3, q4, q5, q6, q7, q8, q9⟩, p0⟩ := hSw); (first | (go_simp; done) | (go_simp; with_reducible rfl) | (with_reducible rfl))
          try simp only [Act.put, List.setIfInBounds_toArray, List.set_cons_zero, List.set_cons_succ]
          refine wpAnyH_take (i := 14) (oi := { dst := some 42, op := Op.move (Operand.tmp 8), type := 3, pos := "l07_plan.go:87", after := #[{ on := 13, ground := Ground.guard }], guard := some (13, true) }) (v := undef) rfl (by kernel_rfl) (by kernel_rfl) (by kernel_rfl) (fun _ _ _ h => h) (Or.inr ⟨by rfl, rfl⟩) (by assumption) ?_
          try simp only [Act.put, List.setIfInBounds_toArray, List.set_cons_zero, List.set_cons_succ]
          refine wpAnyH_take (i := 15) (oi := { dst := some 43, op := Op.fieldAddr 33 (Operand.tmp 2) 0, type := 0, pos := "l07_plan.go:87", after := #[{ on := 13, ground := Ground.guard }], guard := some (13, true) }) (v := undef) rfl (by kernel_rfl) (by kernel_rfl) (by kernel_rfl) (fun _ _ _ h => h) (Or.inr ⟨by rfl, rfl⟩) (by assumption) ?_
          try simp only [Act.put, List.setIfInBounds_toArray, List.set_cons_zero, List.set_cons_succ]
          refine wpAnyH_take (i := 16) (oi := { dst := some 44, op := Op.load 3 (Operand.tmp 43), type := 3, pos := "l07_plan.go:87", after := #[{ on := 15, ground := Ground.data }, { on := 13, ground := Ground.guard }], guard := some (13, true) }) (v := undef) rfl (by kernel_rfl) (by kernel_rfl) (by kernel_rfl) (fun _ _ _ h => h) (Or.inr ⟨by rfl, rfl⟩) (by assumption) ?_
          try simp only [Act.put, List.setIfInBounds_toArray, List.set_cons_zero, List.set_cons_succ]
          refine wpAnyH_take (i := 17) (oi := { dst := some 45, op := Op.binOp BinOp.leq 3 (Operand.tmp 42) (Operand.tmp 44) 3, type := 4, pos := "l07_plan.go:87", after := #[{ on := 14, ground := Ground.data }, { on := 16, ground := Ground.data }, { on := 13, ground := Ground.guard }], guard := some (13, true) }) (v := undef) rfl (by kernel_rfl) (by kernel_rfl) (by kernel_rfl) (fun _ _ _ h => h) (Or.inr ⟨by rfl, rfl⟩) (by assumption) ?_
          try simp only [Act.put, List.setIfInBounds_toArray, List.set_cons_zero, List.set_cons_succ]
          refine wpAnyH_take (i := 18) (oi := { dst := some 46, op := Op.pick (Operand.tmp 41) (Operand.tmp 45) (Operand.const (Value.bool false)), type := 4, pos := "l07_plan.go:87", after := #[{ on := 13, ground := Ground.data }, { on := 17, ground := Ground.data }, { on := 10, ground := Ground.guard }], guard := some (10, true) }) (v := ?vh18) rfl (by kernel_rfl) (by kernel_rfl) (by kernel_rfl) (fun _ _ _ h => h) (Or.inl ⟨by rfl, ?hyh18⟩) (by assumption) ?resth18
          case hyh18 => intro w hSw; (try dsimp only at hSw); (obtain ⟨⟨q0, q1, q2, q3, q4, q5, q6, q7, q8, q9⟩, p0⟩ := hSw); (first | (go_simp; done) | (go_simp; with_reducible rfl) | (with_reducible rfl))
          try simp only [Act.put, List.setIfInBounds_toArray, List.set_cons_zero, List.set_cons_succ]
          refine wpAnyH_take (i := 19) (oi := { dst := some 47, op := Op.move (Operand.tmp 46), type := 4, pos := "l07_plan.go:87", after := #[{ on := 18, ground := Ground.data }, { on := 13, ground := Ground.chain }, { on := 10, ground := Ground.guard }], guard := some (10, true) }) (v := ?vh19) rfl (by kernel_rfl) (by kernel_rfl) (by kernel_rfl) (fun _ _ _ h => h) (Or.inl ⟨by rfl, ?hyh19⟩) (by assumption) ?resth19
          case hyh19 => intro w hSw; (try dsimp only at hSw); (obtain ⟨⟨q0, q1, q2, q3, q4, q5, q6, q7, q8, q9⟩, p0⟩ := hSw); (first | (go_simp; done) | (go_simp; with_reducible rfl) | (with_reducible rfl))
          try simp only [Act.put, List.setIfInBounds_toArray, List.set_cons_zero, List.set_cons_succ]
          refine wpAnyH_take (i := 20) (oi := { dst := some 48, op := Op.move (Operand.tmp 7), type := 3, pos := "l07_plan.go:87", after := #[{ on := 19, ground := Ground.guard }], guard := some (19, false) }) (v := ?vh20) rfl (by kernel_rfl) (by kernel_rfl) (by kernel_rfl) (fun _ _ _ h => h) (Or.inl ⟨by rfl, ?hyh20⟩) (by assumption) ?resth20
          case hyh20 => intro w hSw; (try dsimp only at hSw); (obtain ⟨⟨q0, q1, q2, q3, q4, q5, q6, q7, q8, q9⟩, p0⟩ := hSw); (first | (go_simp; done) | (go_simp; with_reducible rfl) | (with_reducible rfl))
          try simp only [Act.put, List.setIfInBounds_toArray, List.set_cons_zero, List.set_cons_succ]
          refine wpAnyH_take (i := 21) (oi := { dst := some 49, op := Op.binOp BinOp.gtr 3 (Operand.tmp 48) (Operand.const (Value.int IntKind.i64 0)) 3, type := 4, pos := "l07_plan.go:87", after := #[{ on := 20, ground := Ground.data }, { on := 19, ground := Ground.guard }], guard := some (19, false) }) (v := ?vh21) rfl (by kernel_rfl) (by kernel_rfl) (by kernel_rfl) (fun _ _ _ h => h) (Or.inl ⟨by rfl, ?hyh21⟩) (by assumption) ?resth21
          case hyh21 => intro w hSw; (try dsimp only at hSw); (obtain ⟨⟨q0, q1, q2, q3, q4, q5, q6, q7, q8, q9⟩, p0⟩ := hSw); (first | (go_simp; done) | (go_simp; with_reducible rfl) | (with_reducible rfl))
          try simp only [Act.put, List.setIfInBounds_toArray, List.set_cons_zero, List.set_cons_succ]
          refine wpAnyH_take (i := 22) (oi := { dst := some 50, op := Op.move (Operand.tmp 49), type := 4, pos := "l07_plan.go:87", after := #[{ on := 21, ground := Ground.data }, { on := 19, ground := Ground.chain }, { on := 19, ground := Ground.guard }], guard := some (19, false) }) (v := ?vh22) rfl (by kernel_rfl) (by kernel_rfl) (by kernel_rfl) (fun _ _ _ h => h) (Or.inl ⟨by rfl, ?hyh22⟩) (by assumption) ?resth22
          case hyh22 => intro w hSw; (try dsimp only at hSw); (obtain ⟨⟨q0, q1, q2, q3, q4, q5, q6, q7, q8, q9⟩, p0⟩ := hSw); (first | (go_simp; done) | (go_simp; with_reducible rfl) | (with_reducible rfl))
          try simp only [Act.put, List.setIfInBounds_toArray, List.set_cons_zero, List.set_cons_succ]
          refine wpAnyH_take (i := 23) (oi := { dst := some 51, op := Op.move (Operand.tmp 9), type := 3, pos := "l07_plan.go:87", after := #[{ on := 22, ground := Ground.guard }], guard := some (22, true) }) (v := ?vh23) rfl (by kernel_rfl) (by kernel_rfl) (by kernel_rfl) (fun _ _ _ h => h) (Or.inl ⟨by rfl, ?hyh23⟩) (by assumption) ?resth23
          case hyh23 => intro w hSw; (try dsimp only at hSw); (obtain ⟨⟨q0, q1, q2, q3, q4, q5, q6, q7, q8, q9⟩, p0⟩ := hSw); (first | (go_simp; done) | (go_simp; with_reducible rfl) | (with_reducible rfl))
          try simp only [Act.put, List.setIfInBounds_toArray, List.set_cons_zero, List.set_cons_succ]
          refine wpAnyH_take (i := 24) (oi := { dst := some 52, op := Op.fieldAddr 33 (Operand.tmp 2) 1, type := 0, pos := "l07_plan.go:87", after := #[{ on := 22, ground := Ground.guard }], guard := some (22, true) }) (v := ?vh24) rfl (by kernel_rfl) (by kernel_rfl) (by kernel_rfl) (fun _ _ _ h => h) (Or.inl ⟨by rfl, ?hyh24⟩) (by assumption) ?resth24
          case hyh24 => intro w hSw; (try dsimp only at hSw); (obtain ⟨⟨q0, q1, q2, q3, q4, q5, q6, q7, q8, q9⟩, p0⟩ := hSw); (first | (go_simp; done) | (go_simp; with_reducible rfl) | (with_reducible rfl))
          try simp only [Act.put, List.setIfInBounds_toArray, List.set_cons_zero, List.set_cons_succ]
          refine wpAnyH_take (i := 25) (oi := { dst := some 53, op := Op.load 3 (Operand.tmp 52), type := 3, pos := "l07_plan.go:87", after := #[{ on := 24, ground := Ground.data }, { on := 22, ground := Ground.guard }], guard := some (22, true) }) (v := ?vh25) rfl (by kernel_rfl) (by kernel_rfl) (by kernel_rfl) (fun _ _ _ h => h) (Or.inl ⟨by rfl, ?hyh25⟩) (by assumption) ?resth25
          case hyh25 => intro w hSw; (try dsimp only at hSw); (obtain ⟨⟨q0, q1, q2, q3, q4, q5, q6, q7, q8, q9⟩, p0⟩ := hSw); (first | (go_simp; done) | (go_simp; with_reducible rfl) | (with_reducible rfl))
          try simp only [Act.put, List.setIfInBounds_toArray, List.set_cons_zero, List.set_cons_succ]
          refine wpAnyH_take (i := 26) (oi := { dst := some 54, op := Op.binOp BinOp.lss 3 (Operand.tmp 51) (Operand.tmp 53) 3, type := 4, pos := "l07_plan.go:87", after := #[{ on := 23, ground := Ground.data }, { on := 25, ground := Ground.data }, { on := 22, ground := Ground.guard }], guard := some (22, true) }) (v := ?vh26) rfl (by kernel_rfl) (by kernel_rfl) (by kernel_rfl) (fun _ _ _ h => h) (Or.inl ⟨by rfl, ?hyh26⟩) (by assumption) ?resth26
          case hyh26 => intro w hSw; (try dsimp only at hSw); (obtain ⟨⟨q0, q1, q2, q3, q4, q5, q6, q7, q8, q9⟩, p0⟩ := hSw); (first | (go_simp; done) | (go_simp; with_reducible rfl) | (with_reducible rfl))
          try simp only [Act.put, List.setIfInBounds_toArray, List.set_cons_zero, List.set_cons_succ]
          refine wpAnyH_take (i := 27) (oi := { dst := some 55, op := Op.pick (Operand.tmp 50) (Operand.tmp 54) (Operand.const (Value.bool false)), type := 4, pos := "l07_plan.go:87", after := #[{ on := 22, ground := Ground.data }, { on := 26, ground := Ground.data }, { on := 19, ground := Ground.guard }], guard := some (19, false) }) (v := ?vh27) rfl (by kernel_rfl) (by kernel_rfl) (by kernel_rfl) (fun _ _ _ h => h) (Or.inl ⟨by rfl, ?hyh27⟩) (by assumption) ?resth27
          case hyh27 => intro w hSw; (try dsimp only at hSw); (obtain ⟨⟨q0, q1, q2, q3, q4, q5, q6, q7, q8, q9⟩, p0⟩ := hSw); (first | (go_simp; done) | (go_simp; with_reducible rfl) | (with_reducible rfl))
          try simp only [Act.put, List.setIfInBounds_toArray, List.set_cons_zero, List.set_cons_succ]
          refine wpAnyH_take (i := 28) (oi := { dst := some 56, op := Op.pick (Operand.tmp 47) (Operand.const (Value.bool true)) (Operand.tmp 55), type := 4, pos := "l07_plan.go:87", after := #[{ on := 19, ground := Ground.data }, { on := 27, ground := Ground.data }, { on := 10, ground := Ground.guard }], guard := some (10, true) }) (v := ?vh28) rfl (by kernel_rfl) (by kernel_rfl) (by kernel_rfl) (fun _ _ _ h => h) (Or.inl ⟨by rfl, ?hyh28⟩) (by assumption) ?resth28
          case hyh28 => intro w hSw; (try dsimp only at hSw); (obtain ⟨⟨q0, q1, q2, q3, q4, q5, q6, q7, q8, q9⟩, p0⟩ := hSw); (first | (go_simp; done) | (go_simp; with_reducible rfl) | (with_reducible rfl))
          try simp only [Act.put, List.setIfInBounds_toArray, List.set_cons_zero, List.set_cons_succ]
          refine wpAnyH_take (i := 29) (oi := { dst := some 57, op := Op.pick (Operand.tmp 38) (Operand.tmp 56) (Operand.const (Value.bool false)), type := 4, pos := "l07_plan.go:87", after := #[{ on := 10, ground := Ground.data }, { on := 28, ground := Ground.data }], guard := none }) (v := ?vh29) rfl (by kernel_rfl) (by kernel_rfl) (by kernel_rfl) (fun _ _ _ h => h) (Or.inl ⟨by rfl, ?hyh29⟩) (by assumption) ?resth29
          case hyh29 => intro w hSw; (try dsimp only at hSw); (obtain ⟨⟨q0, q1, q2, q3, q4, q5, q6, q7, q8, q9⟩, p0⟩ := hSw); (first | (go_simp; done) | (go_simp; with_reducible rfl) | (with_reducible rfl))
          try simp only [Act.put, List.setIfInBounds_toArray, List.set_cons_zero, List.set_cons_succ]
          refine wpAnyH_done (by kernel_rfl) ?_ _
          refine NoPanic.normal ?_
          clear hHeld CS hb4 C4'
          have sz : x0 + 1 ≤ w4.heap.size := Nat.le_of_lt s4
          have hO5 := HO4.out.below (bal (Below.refl _ w4) (.cells #[.string key] 9))
          have HO5 := Lib.hid hO5; clear hO5
          have HNw := Lib.hid (new_cx w4 key 9)
          have Hb5 := Lib.hid (b4.alloc (show x0 ≤ w4.heap.size by omega) (.cells #[.string key] 9))
          have C5 := Lib.hid (C4.out.below (bal (Below.refl _ w4) (.cells #[.string key] 9)) (by omega))
          clear HO4
          go_wp2_with (at_builtin; refine wpList_append_sl cxV 1 16 (fun _ => rfl) cxV_one 49 9 _ infoCx rfl (by omega) Tryd.underlying49 rfl _ _ rfl (x0 + 1) ps [key] (.slice Av ps.length cv) rfl HO5.out (some ⟨w4.heap.size, 0, none⟩) 1 (w4.heap.size + 1) rfl HNw.out (by simp [maxLen]; omega) (by simp; omega) (by simp; omega) ?_; intro v' w6 hO6 hg6 _; obtain ⟨A6, c6, rfl⟩ := hO6.form; have HO6 := Lib.hid hO6; clear hO6; have Hg6 := Lib.hid hg6; clear hg6)
          have hb6 : Below (x0 + 1) (w4.alloc (.cells #[.string key] 9)) w6 := below_of_grown Hg6.out (by simp; omega) (fun g e => (World.ownsRow.lt HO5.out g e).1)
          have b6 : Below x0 w w6 := Hb5.out.trans (hb6.mono (by omega))
          have C6 := Lib.hid (C5.out.below hb6 (by omega))
          have s6 : x0 + 1 < w6.heap.size := by have := hb6.size; simp at this; omega
          go_roundw
          case rel => exact ⟨k + 1, A6, c6, by omega, by go_num, by rw [E.out]; simp, by rw [E.out]; exact HO6, C6, Lib.hid s6, b6⟩
          case measure => simp [intOf]; omega
        · have dd : decide (m < s.fe) = false := by simpa using hn
          have E := Lib.hid (HNO.out (Bool.eq_false_iff.2 fun h => hn (HPI2.out.1 (orphB_iff.1 h).2)))
          clear HY HNO HPI HPI2 hn ht
          refine wp_region_noPanic ?_
          refine wp_region_held_drew (S := (fun w' => (w'.cell? ⟨x0, 0, none⟩ = some (.int .i64 s.sq) ∧ w'.cell? ⟨x0, 1, none⟩ = some (.int .i64 s.fe) ∧ w'.cell? ⟨x0, 2, none⟩ = some (.slice A s.ents.length c) ∧ w'.cell? ⟨x0, 3, none⟩ = some (.slice A2 s.tmbs.length c2) ∧ w'.cell? ⟨x0, 4, none⟩ = some (.int .i64 s.lo.a) ∧ w'.cell? ⟨x0, 5, none⟩ = some (.int .i64 s.lo.b) ∧ w'.cell? ⟨x0, 6, none⟩ = some (.int .i64 s.lo.c) ∧ w'.cell? ⟨x0, 7, none⟩ = some (.int .i64 s.hi.a) ∧ w'.cell? ⟨x0, 8, none⟩ = some (.int .i64 s.hi.b) ∧ w'.cell? ⟨x0, 9, none⟩ = some (.int .i64 s.hi.c)) ∧ w'.cell? ⟨b1, o1 + k, none⟩ = some (.string key))) (by kernel_rfl) (⟨CS, P2⟩) (fun hHeld => ?_)
          refine wpAnyH_take (i := 0) (oi := { dst := some 28, op := Op.move (Operand.tmp 10), type := 4, pos := "l07_plan.go:87", after := #[], guard := none }) (v := ?vi0) rfl (by kernel_rfl) (by kernel_rfl) (by kernel_rfl) (fun _ _ _ h => h) (Or.inl ⟨by rfl, ?hyi0⟩) (by assumption) ?resti0
          case hyi0 => intro w hSw; (try dsimp only at hSw); (obtain ⟨⟨q0, q1, q2, q3, q4, q5, q6, q7, q8, q9⟩, p0⟩ := hSw); (first | (go_simp; done) | (go_simp; with_reducible rfl) | (with_reducible rfl))
          try simp only [Act.put, List.setIfInBounds_toArray, List.set_cons_zero, List.set_cons_succ]
          refine wpAnyH_take (i := 1) (oi := { dst := some 29, op := Op.move (Operand.tmp 28), type := 4, pos := "l07_plan.go:87", after := #[{ on := 0, ground := Ground.data }], guard := none }) (v := ?vi1) rfl (by kernel_rfl) (by kernel_rfl) (by kernel_rfl) (fun _ _ _ h => h) (Or.inl ⟨by rfl, ?hyi1⟩) (by assumption) ?resti1
          case hyi1 => intro w hSw; (try dsimp only at hSw); (obtain ⟨⟨q0, q1, q2, q3, q4, q5, q6, q7, q8, q9⟩, p0⟩ := hSw); (first | (go_simp; done) | (go_simp; with_reducible rfl) | (with_reducible rfl))
          try simp only [Act.put, List.setIfInBounds_toArray, List.set_cons_zero, List.set_cons_succ]
          refine wpAnyH_take (i := 2) (oi := { dst := some 30, op := Op.load 33 (Operand.tmp 2), type := 33, pos := "l07_plan.go:87", after := #[{ on := 1, ground := Ground.guard }], guard := some (1, true) }) (v := ?vi2) rfl (by kernel_rfl) (by kernel_rfl) (by kernel_rfl) (fun _ _ _ h => h) (Or.inl ⟨by rfl, ?hyi2⟩) (by assumption) ?resti2
          case hyi2 => intro w hSw; (try dsimp only at hSw); (obtain ⟨⟨q0, q1, q2, q3, q4, q5, q6, q7, q8, q9⟩, p0⟩ := hSw); (first | (go_simp; done) | (go_simp; with_reducible rfl) | (with_reducible rfl))
          try simp only [Act.put, List.setIfInBounds_toArray, List.set_cons_zero, List.set_cons_succ]
          refine wpAnyH_take (i := 3) (oi := { dst := some 31, op := Op.move (Operand.tmp 1), type := 49, pos := "l07_plan.go:87", after := #[{ on := 1, ground := Ground.guard }], guard := some (1, true) }) (v := ?vi3) rfl (by kernel_rfl) (by kernel_rfl) (by kernel_rfl) (fun _ _ _ h => h) (Or.inl ⟨by rfl, ?hyi3⟩) (by assumption) ?resti3
          case hyi3 => intro w hSw; (try dsimp only at hSw); (obtain ⟨⟨q0, q1, q2, q3, q4, q5, q6, q7, q8, q9⟩, p0⟩ := hSw); (first | (go_simp; done) | (go_simp; with_reducible rfl) | (with_reducible rfl))
          try simp only [Act.put, List.setIfInBounds_toArray, List.set_cons_zero, List.set_cons_succ]
          refine wpAnyH_take (i := 4) (oi := { dst := some 32, op := Op.move (Operand.tmp 6), type := 3, pos := "l07_plan.go:87", after := #[{ on := 1, ground := Ground.guard }], guard := some (1, true) }) (v := ?vi4) rfl (by kernel_rfl) (by kernel_rfl) (by kernel_rfl) (fun _ _ _ h => h) (Or.inl ⟨by rfl, ?hyi4⟩) (by assumption) ?resti4
          case hyi4 => intro w hSw; (try dsimp only at hSw); (obtain ⟨⟨q0, q1, q2, q3, q4, q5, q6, q7, q8, q9⟩, p0⟩ := hSw); (first | (go_simp; done) | (go_simp; with_reducible rfl) | (with_reducible rfl))
          try simp only [Act.put, List.setIfInBounds_toArray, List.set_cons_zero, List.set_cons_succ]
          refine wpAnyH_take (i := 5) (oi := { dst := some 33, op := Op.indexAddr 49 (Operand.tmp 31) (Operand.tmp 32), type := 0, pos := "l07_plan.go:87", after := #[{ on := 3, ground := Ground.data }, { on := 4, ground := Ground.data }, { on := 1, ground := Ground.guard }], guard := some (1, true) }) (v := ?vi5) rfl (by kernel_rfl) (by kernel_rfl) (by kernel_rfl) (fun _ _ _ h => h) (Or.inl ⟨by rfl, ?hyi5⟩) (by assumption) ?resti5
          case hyi5 => intro w hSw; (try dsimp only at hSw); (obtain ⟨⟨q0, q1, q2, q3, q4, q5, q6, q7, q8, q9⟩, p0⟩ := hSw); (first | (go_simp; done) | (go_simp; with_reducible rfl) | (with_reducible rfl))
          try simp only [Act.put, List.setIfInBounds_toArray, List.set_cons_zero, List.set_cons_succ]
          refine wpAnyH_take (i := 6) (oi := { dst := some 34, op := Op.load 9 (Operand.tmp 33), type := 9, pos := "l07_plan.go:87", after := #[{ on := 5, ground := Ground.data }, { on := 1, ground := Ground.guard }], guard := some (1, true) }) (v := ?vi6) rfl (by kernel_rfl) (by kernel_rfl) (by kernel_rfl) (fun _ _ _ h => h) (Or.inl ⟨by rfl, ?hyi6⟩) (by assumption) ?resti6
          case hyi6 => intro w hSw; (try dsimp only at hSw); (obtain ⟨⟨q0, q1, q2, q3, q4, q5, q6, q7, q8, q9⟩, p0⟩ := hSw); (first | (go_simp; done) | (go_simp; with_reducible rfl) | (with_reducible rfl))
          try simp only [Act.put, List.setIfInBounds_toArray, List.set_cons_zero, List.set_cons_succ]
          refine wpAnyH_ready (rs := [7]) (by kernel_rfl) (by simp) ?_
          refine AllReadyH.cons (o := { dst := some 35, op := Op.call { callee := Callee.value (Operand.func 83), args := #[Operand.tmp 30, Operand.tmp 34], argTypes := #[33, 9] }, type := 4, pos := "l07_plan.go:87", after := #[{ on := 2, ground := Ground.data }, { on := 6, ground := Ground.data }, { on := 1, ground := Ground.chain }, { on := 1, ground := Ground.guard }], guard := some (1, true) }) rfl (fun K hK => ?_) AllReadyH.nil
          go_simp
          refine (named_b A c A2 c2 s key false hmb x0 _ (HNM.out.below (Below.refl w2.heap.size w2).drew (by omega)) (by show x0 ≤ w2.heap.size; omega) hl hl2).mono ?_
          rintro r w4 ⟨rfl, hb4'⟩
          have hb4 : Below w2.heap.size w2 w4 := (Below.refl _ _).drew.trans hb4'
          clear hb4'
          have C4 := Lib.hid (C2.out.below hb4 (by omega))
          have C4' := C4.out.ten
          have P4 : w4.cell? ⟨b1, o1 + k, none⟩ = some (.string key) := (hb4.cell (p := ⟨b1, o1 + k, none⟩) (by show b1 < w2.heap.size; omega)).trans P2
          have HO4 := Lib.hid (HO2.out.below hb4)
          have b4 : Below x0 w w4 := b2.trans (hb4.mono (by omega))
          have s4 : x0 + 1 < w4.heap.size := by have := hb4.size; omega
          go_wp2_with fail
          refine hK.out _ _ (⟨C4', P4⟩) (fun hHeld => ?_)
          clear hK K
          try simp only [Act.put, List.setIfInBounds_toArray, List.set_cons_zero, List.set_cons_succ]
          refine wpAnyH_take (i := 8) (oi := { dst := some 36, op := Op.unOp UnOp.not 4 (Operand.tmp 35), type := 4, pos := "l07_plan.go:87", after := #[{ on := 7, ground := Ground.data }, { on := 1, ground := Ground.guard }], guard := some (1, true) }) (v := ?vi8) rfl (by kernel_rfl) (by kernel_rfl) (by kernel_rfl) (fun _ _ _ h => h) (Or.inl ⟨by rfl, ?hyi8⟩) (by assumption) ?resti8
          case hyi8 => intro w hSw; (try dsimp only at hSw); (obtain ⟨⟨q0, q1, q2, q3, q4, q5, q6, q7, q8, q9⟩, p0⟩ := hSw); (first | (go_simp; done) | (go_simp; with_reducible rfl) | (with_reducible rfl))
          try simp only [Act.put, List.setIfInBounds_toArray, List.set_cons_zero, List.set_cons_succ]
          refine wpAnyH_take (i := 9) (oi := { dst := some 37, op := Op.pick (Operand.tmp 29) (Operand.tmp 36) (Operand.const (Value.bool false)), type := 4, pos := "l07_plan.go:87", after := #[{ on := 1, ground := Ground.data }, { on := 8, ground := Ground.data }], guard := none }) (v := ?vi9) rfl (by kernel_rfl) (by kernel_rfl) (by kernel_rfl) (fun _ _ _ h => h) (Or.inl ⟨by rfl, ?hyi9⟩) (by assumption) ?resti9
          case hyi9 => intro w hSw; (try dsimp only at hSw); (obtain ⟨⟨q0, q1, q2, q3, q4, q5, q6, q7, q8, q9⟩, p0⟩ := hSw); (first | (go_simp; done) | (go_simp; with_reducible rfl) | (with_reducible rfl))
          try simp only [Act.put, List.setIfInBounds_toArray, List.set_cons_zero, List.set_cons_succ]
          refine wpAnyH_take (i := 10) (oi := { dst := some 38, op := Op.move (Operand.tmp 37), type := 4, pos := "l07_plan.go:87", after := #[{ on := 9, ground := Ground.data }, { on := 7, ground := Ground.chain }], guard := none }) (v := ?vi10) rfl (by kernel_rfl) (by kernel_rfl) (by kernel_rfl) (fun _ _ _ h => h) (Or.inl ⟨by rfl, ?hyi10⟩) (by assumption) ?resti10
          case hyi10 => intro w hSw; (try dsimp only at hSw); (obtain ⟨⟨q0, q1, q2, q3, q4, q5, q6, q7, q8, q9⟩, p0⟩ := hSw); (first | (go_simp; done) | (go_simp; with_reducible rfl) | (with_reducible rfl))
          try simp only [Act.put, List.setIfInBounds_toArray, List.set_cons_zero, List.set_cons_succ]
          refine wpAnyH_take (i := 11) (oi := { dst := some 39, op := Op.move (Operand.tmp 7), type := 3, pos := "l07_plan.go:87", after := #[{ on := 10, ground := Ground.guard }], guard := some (10, true) }) (v := ?vi11) rfl (by kernel_rfl) (by kernel_rfl) (by kernel_rfl) (fun _ _ _ h => h) (Or.inl ⟨by rfl, ?hyi11⟩) (by assumption) ?resti11
          case hyi11 => intro w hSw; (try dsimp only at hSw); (obtain ⟨⟨q0, q1, q2, q3, q4, q5, q6, q7, q8, q9⟩, p0⟩ := hSw); (first | (go_simp; done) | (go_simp; with_reducible rfl) | (with_reducible rfl))
          try simp only [Act.put, List.setIfInBounds_toArray, List.set_cons_zero, List.set_cons_succ]
          refine wpAnyH_take (i := 12) (oi := { dst := some 40, op := Op.binOp BinOp.eql 3 (Operand.tmp 39) (Operand.const (Value.int IntKind.i64 0)) 3, type := 4, pos := "l07_plan.go:87", after := #[{ on := 11, ground := Ground.data }, { on := 10, ground := Ground.guard }], guard := some (10, true) }) (v := ?vi12) rfl (by kernel_rfl) (by kernel_rfl) (by kernel_rfl) (fun _ _ _ h => h) (Or.inl ⟨by rfl, ?hyi12⟩) (by assumption) ?resti12
          case hyi12 => intro w hSw; (try dsimp only at hSw); (obtain ⟨⟨q0, q1, q2, q3, q4, q5, q6, q7, q8, q9⟩, p0⟩ := hSw); (first | (go_simp; done) | (go_simp; with_reducible rfl) | (with_reducible rfl))
          try simp only [Act.put, List.setIfInBounds_toArray, List.set_cons_zero, List.set_cons_succ]
          refine wpAnyH_take (i := 13) (oi := { dst := some 41, op := Op.move (Operand.tmp 40), type := 4, pos := "l07_plan.go:87", after := #[{ on := 12, ground := Ground.data }, { on := 10, ground := Ground.chain }, { on := 10, ground := Ground.guard }], guard := some (10, true) }) (v := ?vi13) rfl (by kernel_rfl) (by kernel_rfl) (by kernel_rfl) (fun _ _ _ h => h) (Or.inl ⟨by rfl, ?hyi13⟩) (by assumption) ?resti13
          case hyi13 => intro w hSw; (try dsimp only at hSw); (obtain ⟨⟨q0, q1, q2, q3, q4, q5, q6, q7, q8, q9⟩, p0⟩ := hSw); (first | (go_simp; done) | (go_simp; with_reducible rfl) | (with_reducible rfl))
          try simp only [Act.put, List.setIfInBounds_toArray, List.set_cons_zero, List.set_cons_succ]
          refine wpAnyH_take (i := 14) (oi := { dst := some 42, op := Op.move (Operand.tmp 8), type := 3, pos := "l07_plan.go:87", after := #[{ on := 13, ground := Ground.guard }], guard := some (13, true) }) (v := undef) rfl (by kernel_rfl) (by kernel_rfl) (by kernel_rfl) (fun _ _ _ h => h) (Or.inr ⟨by rfl, rfl⟩) (by assumption) ?_
          try simp only [Act.put, List.setIfInBounds_toArray, List.set_cons_zero, List.set_cons_succ]
          refine wpAnyH_take (i := 15) (oi := { dst := some 43, op := Op.fieldAddr 33 (Operand.tmp 2) 0, type := 0, pos := "l07_plan.go:87", after := #[{ on := 13, ground := Ground.guard }], guard := some (13, true) }) (v := undef) rfl (by kernel_rfl) (by kernel_rfl) (by kernel_rfl) (fun _ _ _ h => h) (Or.inr ⟨by rfl, rfl⟩) (by assumption) ?_
          try simp only [Act.put, List.setIfInBounds_toArray, List.set_cons_zero, List.set_cons_succ]
          refine wpAnyH_take (i := 16) (oi := { dst := some 44, op := Op.load 3 (Operand.tmp 43), type := 3, pos := "l07_plan.go:87", after := #[{ on := 15, ground := Ground.data }, { on := 13, ground := Ground.guard }], guard := some (13, true) }) (v := undef) rfl (by kernel_rfl) (by kernel_rfl) (by kernel_rfl) (fun _ _ _ h => h) (Or.inr ⟨by rfl, rfl⟩) (by assumption) ?_
          try simp only [Act.put, List.setIfInBounds_toArray, List.set_cons_zero, List.set_cons_succ]
          refine wpAnyH_take (i := 17) (oi := { dst := some 45, op := Op.binOp BinOp.leq 3 (Operand.tmp 42) (Operand.tmp 44) 3, type := 4, pos := "l07_plan.go:87", after := #[{ on := 14, ground := Ground.data }, { on := 16, ground := Ground.data }, { on := 13, ground := Ground.guard }], guard := some (13, true) }) (v := undef) rfl (by kernel_rfl) (by kernel_rfl) (by kernel_rfl) (fun _ _ _ h => h) (Or.inr ⟨by rfl, rfl⟩) (by assumption) ?_
          try simp only [Act.put, List.setIfInBounds_toArray, List.set_cons_zero, List.set_cons_succ]
          refine wpAnyH_take (i := 18) (oi := { dst := some 46, op := Op.pick (Operand.tmp 41) (Operand.tmp 45) (Operand.const (Value.bool false)), type := 4, pos := "l07_plan.go:87", after := #[{ on := 13, ground := Ground.data }, { on := 17, ground := Ground.data }, { on := 10, ground := Ground.guard }], guard := some (10, true) }) (v := ?vi18) rfl (by kernel_rfl) (by kernel_rfl) (by kernel_rfl) (fun _ _ _ h => h) (Or.inl ⟨by rfl, ?hyi18⟩) (by assumption) ?resti18
          case hyi18 => intro w hSw; (try dsimp only at hSw); (obtain ⟨⟨q0, q1, q2, q3, q4, q5, q6, q7, q8, q9⟩, p0⟩ := hSw); (first | (go_simp; done) | (go_simp; with_reducible rfl) | (with_reducible rfl))
          try simp only [Act.put, List.setIfInBounds_toArray, List.set_cons_zero, List.set_cons_succ]
          refine wpAnyH_take (i := 19) (oi := { dst := some 47, op := Op.move (Operand.tmp 46), type := 4, pos := "l07_plan.go:87", after := #[{ on := 18, ground := Ground.data }, { on := 13, ground := Ground.chain }, { on := 10, ground := Ground.guard }], guard := some (10, true) }) (v := ?vi19) rfl (by kernel_rfl) (by kernel_rfl) (by kernel_rfl) (fun _ _ _ h => h) (Or.inl ⟨by rfl, ?hyi19⟩) (by assumption) ?resti19
          case hyi19 => intro w hSw; (try dsimp only at hSw); (obtain ⟨⟨q0, q1, q2, q3, q4, q5, q6, q7, q8, q9⟩, p0⟩ := hSw); (first | (go_simp; done) | (go_simp; with_reducible rfl) | (with_reducible rfl))
          try simp only [Act.put, List.setIfInBounds_toArray, List.set_cons_zero, List.set_cons_succ]
          refine wpAnyH_take (i := 20) (oi := { dst := some 48, op := Op.move (Operand.tmp 7), type := 3, pos := "l07_plan.go:87", after := #[{ on := 19, ground := Ground.guard }], guard := some (19, false) }) (v := ?vi20) rfl (by kernel_rfl) (by kernel_rfl) (by kernel_rfl) (fun _ _ _ h => h) (Or.inl ⟨by rfl, ?hyi20⟩) (by assumption) ?resti20
          case hyi20 => intro w hSw; (try dsimp only at hSw); (obtain ⟨⟨q0, q1, q2, q3, q4, q5, q6, q7, q8, q9⟩, p0⟩ := hSw); (first | (go_simp; done) | (go_simp; with_reducible rfl) | (with_reducible rfl))
          try simp only [Act.put, List.setIfInBounds_toArray, List.set_cons_zero, List.set_cons_succ]
          refine wpAnyH_take (i := 21) (oi := { dst := some 49, op := Op.binOp BinOp.gtr 3 (Operand.tmp 48) (Operand.const (Value.int IntKind.i64 0)) 3, type := 4, pos := "l07_plan.go:87", after := #[{ on := 20, ground := Ground.data }, { on := 19, ground := Ground.guard }], guard := some (19, false) }) (v := ?vi21) rfl (by kernel_rfl) (by kernel_rfl) (by kernel_rfl) (fun _ _ _ h => h) (Or.inl ⟨by rfl, ?hyi21⟩) (by assumption) ?resti21
          case hyi21 => intro w hSw; (try dsimp only at hSw); (obtain ⟨⟨q0, q1, q2, q3, q4, q5, q6, q7, q8, q9⟩, p0⟩ := hSw); (first | (go_simp; done) | (go_simp; with_reducible rfl) | (with_reducible rfl))
          try simp only [Act.put, List.setIfInBounds_toArray, List.set_cons_zero, List.set_cons_succ]
          refine wpAnyH_take (i := 22) (oi := { dst := some 50, op := Op.move (Operand.tmp 49), type := 4, pos := "l07_plan.go:87", after := #[{ on := 21, ground := Ground.data }, { on := 19, ground := Ground.chain }, { on := 19, ground := Ground.guard }], guard := some (19, false) }) (v := ?vi22) rfl (by kernel_rfl) (by kernel_rfl) (by kernel_rfl) (fun _ _ _ h => h) (Or.inl ⟨by rfl, ?hyi22⟩) (by assumption) ?resti22
          case hyi22 => intro w hSw; (try dsimp only at hSw); (obtain ⟨⟨q0, q1, q2, q3, q4, q5, q6, q7, q8, q9⟩, p0⟩ := hSw); (first | (go_simp; done) | (go_simp; with_reducible rfl) | (with_reducible rfl))
          try simp only [Act.put, List.setIfInBounds_toArray, List.set_cons_zero, List.set_cons_succ]
          refine wpAnyH_take (i := 23) (oi := { dst := some 51, op := Op.move (Operand.tmp 9), type := 3, pos := "l07_plan.go:87", after := #[{ on := 22, ground := Ground.guard }], guard := some (22, true) }) (v := ?vi23) rfl (by kernel_rfl) (by kernel_rfl) (by kernel_rfl) (fun _ _ _ h => h) (Or.inl ⟨by rfl, ?hyi23⟩) (by assumption) ?resti23
          case hyi23 => intro w hSw; (try dsimp only at hSw); (obtain ⟨⟨q0, q1, q2, q3, q4, q5, q6, q7, q8, q9⟩, p0⟩ := hSw); (first | (go_simp; done) | (go_simp; with_reducible rfl) | (with_reducible rfl))
          try simp only [Act.put, List.setIfInBounds_toArray, List.set_cons_zero, List.set_cons_succ]
          refine wpAnyH_take (i := 24) (oi := { dst := some 52, op := Op.fieldAddr 33 (Operand.tmp 2) 1, type := 0, pos := "l07_plan.go:87", after := #[{ on := 22, ground := Ground.guard }], guard := some (22, true) }) (v := ?vi24) rfl (by kernel_rfl) (by kernel_rfl) (by kernel_rfl) (fun _ _ _ h => h) (Or.inl ⟨by rfl, ?hyi24⟩) (by assumption) ?resti24
          case hyi24 => intro w hSw; (try dsimp only at hSw); (obtain ⟨⟨q0, q1, q2, q3, q4, q5, q6, q7, q8, q9⟩, p0⟩ := hSw); (first | (go_simp; done) | (go_simp; with_reducible rfl) | (with_reducible rfl))
          try simp only [Act.put, List.setIfInBounds_toArray, List.set_cons_zero, List.set_cons_succ]
          refine wpAnyH_take (i := 25) (oi := { dst := some 53, op := Op.load 3 (Operand.tmp 52), type := 3, pos := "l07_plan.go:87", after := #[{ on := 24, ground := Ground.data }, { on := 22, ground := Ground.guard }], guard := some (22, true) }) (v := ?vi25) rfl (by kernel_rfl) (by kernel_rfl) (by kernel_rfl) (fun _ _ _ h => h) (Or.inl ⟨by rfl, ?hyi25⟩) (by assumption) ?resti25
          case hyi25 => intro w hSw; (try dsimp only at hSw); (obtain ⟨⟨q0, q1, q2, q3, q4, q5, q6, q7, q8, q9⟩, p0⟩ := hSw); (first | (go_simp; done) | (go_simp; with_reducible rfl) | (with_reducible rfl))
          try simp only [Act.put, List.setIfInBounds_toArray, List.set_cons_zero, List.set_cons_succ]
          refine wpAnyH_take (i := 26) (oi := { dst := some 54, op := Op.binOp BinOp.lss 3 (Operand.tmp 51) (Operand.tmp 53) 3, type := 4, pos := "l07_plan.go:87", after := #[{ on := 23, ground := Ground.data }, { on := 25, ground := Ground.data }, { on := 22, ground := Ground.guard }], guard := some (22, true) }) (v := ?vi26) rfl (by kernel_rfl) (by kernel_rfl) (by kernel_rfl) (fun _ _ _ h => h) (Or.inl ⟨by rfl, ?hyi26⟩) (by assumption) ?resti26
          case hyi26 => intro w hSw; (try dsimp only at hSw); (obtain ⟨⟨q0, q1, q2, q3, q4, q5, q6, q7, q8, q9⟩, p0⟩ := hSw); (first | (go_simp; done) | (go_simp; with_reducible rfl) | (with_reducible rfl))
          try simp only [Act.put, List.setIfInBounds_toArray, List.set_cons_zero, List.set_cons_succ]
          refine wpAnyH_take (i := 27) (oi := { dst := some 55, op := Op.pick (Operand.tmp 50) (Operand.tmp 54) (Operand.const (Value.bool false)), type := 4, pos := "l07_plan.go:87", after := #[{ on := 22, ground := Ground.data }, { on := 26, ground := Ground.data }, { on := 19, ground := Ground.guard }], guard := some (19, false) }) (v := ?vi27) rfl (by kernel_rfl) (by kernel_rfl) (by kernel_rfl) (fun _ _ _ h => h) (Or.inl ⟨by rfl, ?hyi27⟩) (by assumption) ?resti27
          case hyi27 => intro w hSw; (try dsimp only at hSw); (obtain ⟨⟨q0, q1, q2, q3, q4, q5, q6, q7, q8, q9⟩, p0⟩ := hSw); (first | (go_simp; done) | (go_simp; with_reducible rfl) | (with_reducible rfl))
          try simp only [Act.put, List.setIfInBounds_toArray, List.set_cons_zero, List.set_cons_succ]
          refine wpAnyH_take (i := 28) (oi := { dst := some 56, op := Op.pick (Operand.tmp 47) (Operand.const (Value.bool true)) (Operand.tmp 55), type := 4, pos := "l07_plan.go:87", after := #[{ on := 19, ground := Ground.data }, { on := 27, ground := Ground.data }, { on := 10, ground := Ground.guard }], guard := some (10, true) }) (v := ?vi28) rfl (by kernel_rfl) (by kernel_rfl) (by kernel_rfl) (fun _ _ _ h => h) (Or.inl ⟨by rfl, ?hyi28⟩) (by assumption) ?resti28
          case hyi28 => intro w hSw; (try dsimp only at hSw); (obtain ⟨⟨q0, q1, q2, q3, q4, q5, q6, q7, q8, q9⟩, p0⟩ := hSw); (first | (go_simp; done) | (go_simp; with_reducible rfl) | (with_reducible rfl))
          try simp only [Act.put, List.setIfInBounds_toArray, List.set_cons_zero, List.set_cons_succ]
          refine wpAnyH_take (i := 29) (oi := { dst := some 57, op := Op.pick (Operand.tmp 38) (Operand.tmp 56) (Operand.const (Value.bool false)), type := 4, pos := "l07_plan.go:87", after := #[{ on := 10, ground := Ground.data }, { on := 28, ground := Ground.data }], guard := none }) (v := ?vi29) rfl (by kernel_rfl) (by kernel_rfl) (by kernel_rfl) (fun _ _ _ h => h) (Or.inl ⟨by rfl, ?hyi29⟩) (by assumption) ?resti29
          case hyi29 => intro w hSw; (try dsimp only at hSw); (obtain ⟨⟨q0, q1, q2, q3, q4, q5, q6, q7, q8, q9⟩, p0⟩ := hSw); (first | (go_simp; done) | (go_simp; with_reducible rfl) | (with_reducible rfl))
          try simp only [Act.put, List.setIfInBounds_toArray, List.set_cons_zero, List.set_cons_succ]
          refine wpAnyH_done (by kernel_rfl) ?_ _
          refine NoPanic.normal ?_
          clear hHeld CS hb4
          go_wp2_with fail
          go_roundw
          case rel => exact ⟨k + 1, Av, cv, by omega, by go_num, by rw [E.out], by rw [E.out]; exact HO4, C4, Lib.hid s4, b4⟩
          case measure => simp [intOf]; omega
    · have E := Lib.hid (orphs_all s ks (n := k) (by omega))
      have FIN : Hid (NewTxts (ks.filter (orphB s)) w (.returned (.slice Av (orphs s ks k).length cv)) wr) := Lib.hid (by
        have q := HO.out.sl (fun _ => rfl)
        rw [← E.out]
        exact ⟨Av, cv, rfl, q.1, q.2.1, fun b e => ⟨by have := (q.2.2.1 b e).1; have := Hx0.out; omega, (q.2.2.1 b e).2⟩, q.2.2.2, by rw [Hx0.out]; exact hb⟩)
      go_wp2
      go_ret
      exact FIN.out

theorem OrphR.lit {s : GSt} {ks : List ByteArray} {w w' : World} {z : Int} (h : OrphVal s ks [] z) (hb : Below w.heap.size w w') : OrphR s ks w (.returned (.tuple #[.slice (some ⟨w'.heap.size, 0, none⟩) 0 0, .int .i64 z])) (w'.alloc (.cells #[] 9)) :=
  ⟨_, 0, [], z, h, rfl, Sl.nil, free_alloc w' _ _ 0, fun b e => by simp [blk] at e; subst e; exact ⟨hb.size, by simp⟩, Nat.le_refl _, bal hb _⟩

set_option maxRecDepth 100000 in
set_option maxHeartbeats 1000000 in
theorem specOrphansOf_any (A : Option Addr) (c : Nat) (A2 : Option Addr) (c2 : Nat) (s : GSt) (Ak : Option Addr) (ck : Nat) (ks : List ByteArray) (B : Nat) (w : World) (h : StAt w B A A2 s) (hks : StrsAt w B Ak ks) (hB : B ≤ w.heap.size) (hf : ∀ o ∈ s.ents, o.small) (hf2 : ∀ o ∈ s.tmbs, o.small) (hl : s.ents.length ≤ 1048576) (hl2 : s.tmbs.length ≤ 1048576) (hk : ks.length ≤ 1048576) (hkf : ∀ o ∈ ks, o.size ≤ 1048576) :
    Calls Tryd.prog 23 #[.agg #[.int .i64 s.sq, .int .i64 s.fe, .slice A s.ents.length c, .slice A2 s.tmbs.length c2, .int .i64 s.lo.a, .int .i64 s.lo.b, .int .i64 s.lo.c, .int .i64 s.hi.a, .int .i64 s.hi.b, .int .i64 s.hi.c], .slice Ak ks.length ck] w (OrphR s ks w) := by
  have H := Lib.hid h; clear h
  have HK := Lib.hid hks; clear hks
  have Hf := Lib.hid hf; clear hf
  have Hf2 := Lib.hid hf2; clear hf2
  have HKF := Lib.hid hkf; clear hkf
  by_cases h4 : 4096 < ks.length
  · have d : decide (4096 < (ks.length : Int)) = true := by simp; omega
    have HV := Lib.hid (show OrphVal s ks [] 2 from Or.inl ⟨h4, rfl, rfl⟩)
    have FIN : Hid (∀ o, OrphR s ks w (.returned (.tuple #[.slice (some ⟨(w.alloc o).heap.size, 0, none⟩) 0 0, .int .i64 2])) ((w.alloc o).alloc (.cells #[] 9))) := Lib.hid fun o => OrphR.lit HV.out (bal (Below.refl _ _) _)
    clear h4
    go_enter Tryd.func23, Tryd.ntmps23
    go_wp2
    refine bodyPost_ret (v := .tuple #[.slice (some ⟨(w.alloc (.cells #[.int .i64 s.sq, .int .i64 s.fe, .slice A s.ents.length c, .slice A2 s.tmbs.length c2, .int .i64 s.lo.a, .int .i64 s.lo.b, .int .i64 s.lo.c, .int .i64 s.hi.a, .int .i64 s.hi.b, .int .i64 s.hi.c] 33)).heap.size, 0, none⟩) 0 0, .int .i64 2]) (by simp [results, Tryd.results23, go_sem]) rfl (FIN.out _)
  have d : decide (4096 < (ks.length : Int)) = false := by simp; omega
  have H4 : Hid (ks.length ≤ 4096) := Lib.hid (by omega)
  clear h4
  go_enter Tryd.func23, Tryd.ntmps23
  go_wp2_with fail
  have CA : Hid (Cells (w.alloc (.cells #[.int .i64 s.sq, .int .i64 s.fe, .slice A s.ents.length c, .slice A2 s.tmbs.length c2, .int .i64 s.lo.a, .int .i64 s.lo.b, .int .i64 s.lo.c, .int .i64 s.hi.a, .int .i64 s.hi.b, .int .i64 s.hi.c] 33)) w.heap.size 0 [.int .i64 s.sq, .int .i64 s.fe, .slice A s.ents.length c, .slice A2 s.tmbs.length c2, .int .i64 s.lo.a, .int .i64 s.lo.b, .int .i64 s.lo.c, .int .i64 s.hi.a, .int .i64 s.hi.b, .int .i64 s.hi.c]) := Lib.hid (Cells.new w _ _)
  have b0 : Below w.heap.size w (w.alloc (.cells #[.int .i64 s.sq, .int .i64 s.fe, .slice A s.ents.length c, .slice A2 s.tmbs.length c2, .int .i64 s.lo.a, .int .i64 s.lo.b, .int .i64 s.lo.c, .int .i64 s.hi.a, .int .i64 s.hi.b, .int .i64 s.hi.c] 33)) := bal (Below.refl _ _) _
  have s0 : w.heap.size < (w.alloc (.cells #[.int .i64 s.sq, .int .i64 s.fe, .slice A s.ents.length c, .slice A2 s.tmbs.length c2, .int .i64 s.lo.a, .int .i64 s.lo.b, .int .i64 s.lo.c, .int .i64 s.hi.a, .int .i64 s.hi.b, .int .i64 s.hi.c] 33)).heap.size := by simp
  generalize w.alloc (.cells #[.int .i64 s.sq, .int .i64 s.fe, .slice A s.ents.length c, .slice A2 s.tmbs.length c2, .int .i64 s.lo.a, .int .i64 s.lo.b, .int .i64 s.lo.c, .int .i64 s.hi.a, .int .i64 s.hi.b, .int .i64 s.hi.c] 33) = W at *
  generalize hx0 : w.heap.size = x0 at *
  have Hx0 := Lib.hid hx0; clear hx0
  have HS : Hid (∀ w', Below x0 w w' → StAt w' x0 A A2 s) := Lib.hid fun w' hb => (H.out.below hb (by have := Hx0.out; omega)).more (by have := Hx0.out; omega)
  have HKS : Hid (∀ w', Below x0 w w' → StrsAt w' x0 Ak ks) := Lib.hid fun w' hb => Sl.more (Sl.below HK.out hb (by have := Hx0.out; omega)) (by have := Hx0.out; omega)
  clear H HK
  refine (specStateOK_any A c A2 c2 s x0 W (HS.out _ b0) (by omega) Hf.out Hf2.out hl hl2).mono ?_
  rintro e w1 ⟨bs, hbs, rfl, hb1⟩
  have b1 : Below x0 w w1 := b0.trans (hb1.mono (by omega))
  have C1 := Lib.hid (CA.out.below hb1 s0)
  have s1 : x0 < w1.heap.size := by have := hb1.size; omega
  clear CA hb1 b0 s0
  cases bs
  · have HN := Lib.hid (show ¬ StP s from fun h => by have := hbs.2 h; cases this)
    have FIN : Hid (OrphR s ks w (.returned (.tuple #[.slice (some ⟨w1.heap.size, 0, none⟩) 0 0, .int .i64 1])) (w1.alloc (.cells #[] 9))) := Lib.hid (OrphR.lit (Or.inr (Or.inl ⟨H4.out, HN.out, rfl, rfl⟩)) (by rw [Hx0.out]; exact b1))
    clear hbs
    go_wp2
    refine bodyPost_ret (v := .tuple #[.slice (some ⟨w1.heap.size, 0, none⟩) 0 0, .int .i64 1]) (by simp [results, Tryd.results23, go_sem]) rfl FIN.out
  have HSP := Lib.hid (hbs.1 rfl); clear hbs
  obtain ⟨c0, c1, c2', c3, c4, c5, c6, c7, c8, c9⟩ := C1.out.ten
  go_wp2_with fail
  refine (l07Orphans_any A c A2 c2 s Ak ck ks x0 w1 (HS.out _ b1) (HKS.out _ b1) (by omega) hl hl2 H4.out HKF.out).mono ?_
  rintro e w4 ⟨Av, cv, rfl, hst, hfr, hbl, hcv, hb4⟩
  have FIN : Hid (OrphR s ks w (.returned (.tuple #[.slice Av (ks.filter (orphB s)).length cv, .int .i64 0])) w4) := Lib.hid ⟨Av, cv, _, 0, Or.inr (Or.inr ⟨H4.out, HSP.out, rfl, rfl⟩), rfl, hst, hfr, fun b e => ⟨by have := (hbl b e).1; have := Hx0.out; omega, (hbl b e).2⟩, hcv, by rw [Hx0.out]; exact b1.trans (hb4.mono (by omega))⟩
  clear hst hfr hbl hcv hb4 c0 c1 c2' c3 c4 c5 c6 c7 c8 c9 C1
  go_wp2
  refine bodyPost_ret (v := .tuple #[.slice Av (ks.filter (orphB s)).length cv, .int .i64 0]) (by simp [results, Tryd.results23, go_sem]) rfl FIN.out

end Go.Proofs.YthmpmagajbmpaaaDoor

/- A slice of texts that came in, opened. No Go text is walked here. -/
namespace Go.Proofs.YthmpmagajbmpaaaDoor
open Go.ChangeShapes Go.WideShapes Go.ChangeAt Go.RowKit Go.Deep Go.Joins
set_option linter.unusedVariables false

section

variable {H : Type} {enc : TypeId × Value → H} {base : Nat} {spare : Nat → Bool} {held : Bool}

theorem open_txt' {P : Program} {w : World} {e : TypeId} {n : Nat} {cs : List Value} {y : DataW H × List MemPlace} (he : P.underlying e = some .string) (hl : cs.length = 1) (h : DataW.trod enc P w base spare held n e cs = some y) : ∃ x : ByteArray, cs = sVals x ∧ x.size ≤ maxLen := by
  match cs, hl with
  | [a], _ =>
    obtain ⟨s, e0, _, l0⟩ := DataW.trod_string he h
    simp at e0
    subst e0
    exact ⟨s, rfl, l0⟩

theorem open_txts' {P : Program} {t e : TypeId} {W : World} {r : Reach} {b0 : Nat} {v : Value} {d : DataW H} {p : List MemPlace} (hs : P.underlying t = some (.slice e)) (he : P.underlying e = some .string) (hce : P.cellsOf e = 1)
    (hv : Value.okWide P W r b0 t v) (h : DataW.Trod enc P W base spare held t v d p) :
    ∃ (A : Option Addr) (c : Nat) (xs : List ByteArray), v = .slice A xs.length c ∧ StrsAt W W.heap.size A xs ∧ (∀ x ∈ xs, x.size ≤ maxLen) ∧ xs.length ≤ maxLen := by
  obtain ⟨a0, len, cap, rfl⟩ := okWide_slice hs hv
  obtain ⟨fuel, hf⟩ := h
  obtain ⟨A, c, xs, e1, e2, e3, e4⟩ := open_sl sVals 1 (fun x => x.size ≤ maxLen) hs hce (by omega) (fun n cs y hc hy => open_txt' he hc hy) (by simpa [Value.cells] using hf)
  exact ⟨A, c, xs, e1, e2, e3, e4⟩

theorem cellsTxt : Tryd.prog.cellsOf 9 = 1 := by kernel_rfl

set_option maxRecDepth 100000 in
theorem open_txts {W : World} {r : Reach} {b0 : Nat} {v : Value} {d : DataW H} {p : List MemPlace} (hv : Value.okWide Tryd.prog W r b0 49 v) (h : DataW.Trod enc Tryd.prog W base spare held 49 v d p) :
    ∃ (A : Option Addr) (c : Nat) (xs : List ByteArray), v = .slice A xs.length c ∧ StrsAt W W.heap.size A xs ∧ (∀ x ∈ xs, x.size ≤ maxLen) ∧ xs.length ≤ maxLen :=
  open_txts' Tryd.underlying49 Tryd.underlying9 cellsTxt hv h

end

end Go.Proofs.YthmpmagajbmpaaaDoor

/- Contract of the model's l00Join: the texts one after another, with a text between each two. Conditions: lengths within an int. -/
namespace Go.Proofs.YthmpmagajbmpaaaDoor
open Go.ChangeShapes Go.WideShapes Go.ChangeAt Go.RowKit
set_option linter.unusedVariables false

/-- texts with one between each two -/
def joinT (xs : List ByteArray) (sep : ByteArray) : ByteArray := ⟨(Lib.join (xs.map (·.data.toList)) sep.data.toList).toArray⟩

theorem joinT_nil (sep : ByteArray) : joinT [] sep = ⟨#[]⟩ := rfl

theorem joinT_first (xs : List ByteArray) (sep : ByteArray) (h : 0 < xs.length) : joinT (xs.take 1) sep = xs[0] := by
  match xs, h with
  | x :: r, _ => simp [joinT, Lib.join_one]

theorem joinT_next (xs : List ByteArray) (sep : ByteArray) (k : Nat) (h1 : 0 < k) (h : k < xs.length) : joinT (xs.take (k + 1)) sep = joinT (xs.take k) sep ++ sep ++ xs[k] := by
  match xs, k, h1 with
  | x :: r, k + 1, _ =>
    simp only [List.length_cons] at h
    have hk : (r.map (·.data.toList))[k]? = some (r[k]'(by omega)).data.toList := by simp [List.getElem?_eq_getElem (show k < r.length by omega)]
    unfold joinT
    rw [List.take_succ_cons, List.take_succ_cons, List.map_cons, List.map_cons, Lib.join_cons, Lib.join_cons, List.map_take, List.map_take, Lib.joinTail_take_succ _ _ _ _ hk]
    apply ByteArray.ext
    simp [ByteArray.data_append]

theorem joinT_le (xs : List ByteArray) (sep : ByteArray) (k : Nat) : (joinT (xs.take k) sep).size ≤ (joinT xs sep).size := by
  match xs, k with
  | [], k => simp
  | x :: r, 0 => simp [joinT, Lib.join_nil, ByteArray.size]
  | x :: r, k + 1 =>
    unfold joinT
    rw [List.take_succ_cons, List.map_cons, List.map_cons, Lib.join_cons, Lib.join_cons, List.map_take]
    have := Lib.joinTail_take_le sep.data.toList (r.map (·.data.toList)) k
    show (List.toArray _).size ≤ (List.toArray _).size
    rw [List.size_toArray, List.size_toArray, List.length_append, List.length_append]
    omega

end Go.Proofs.YthmpmagajbmpaaaDoor

/- Slices of texts in memory; the length of joined texts; the library's table of powers of ten, held from world to world; contract of strconv.Itoa in these words. Conditions: the table is as the library's text lays it. -/
namespace Go.Proofs.YthmpmagajbmpaaaDoor
open Go.ChangeShapes Go.WideShapes Go.ChangeAt Go.RowKit
set_option linter.unusedVariables false

def txV (s : ByteArray) : List Value := [.string s]

/-- a slice of texts -/
def TxtAt (w : World) (B : Nat) (A : Option Addr) (xs : List ByteArray) : Prop := Sl txV 1 w B A xs

theorem TxtAt.at_ {w : World} {B : Nat} {A : Option Addr} {xs : List ByteArray} (h : TxtAt w B A xs) {k : Nat} (hk : k < xs.length) :
    ∃ b off, A = some ⟨b, off, none⟩ ∧ b < B ∧ w.cell? ⟨b, off + k, none⟩ = some (.string xs[k]) := by
  obtain ⟨b, off, e, hb, hc⟩ := Sl.at_ h hk
  have := hc 0 (.string xs[k]) rfl
  simp only [Nat.mul_one, Nat.add_zero] at this
  exact ⟨b, off, e, hb, this⟩

theorem TxtAt.cells {w : World} {B b o : Nat} {xs : List ByteArray} (h : TxtAt w B (some ⟨b, o, none⟩) xs) (j : Nat) (x : ByteArray) (hj : xs[j]? = some x) : w.cell? ⟨b, o + j, none⟩ = some (.string x) := by
  obtain ⟨hlt, rfl⟩ := List.getElem?_eq_some_iff.1 hj
  obtain ⟨b', o', e, _, hc⟩ := TxtAt.at_ h hlt
  injection e with e
  injection e with e1 e2
  subst e1 e2
  exact hc

theorem joinT_size (sep : ByteArray) (m : Nat) (xs : List ByteArray) (h : ∀ x ∈ xs, x.size ≤ m) : (joinT xs sep).size ≤ xs.length * (m + sep.size) := by
  have key : ∀ k, k ≤ xs.length → (joinT (xs.take k) sep).size ≤ k * (m + sep.size) := by
    intro k
    induction k with
    | zero => intro _; rw [List.take_zero, joinT_nil]; exact Nat.zero_le _
    | succ k ih =>
      intro hk
      have hm := h xs[k] (List.getElem_mem _)
      by_cases h0 : k = 0
      · subst h0
        rw [joinT_first xs sep (by omega)]
        omega
      · have := ih (by omega)
        rw [joinT_next xs sep k (by omega) (by omega), ByteArray.size_append, ByteArray.size_append, Nat.succ_mul]
        omega
  have := key xs.length (Nat.le_refl _)
  rwa [List.take_length] at this

theorem infoStr : (Tryd.prog.info? 9).map (fun i => (i.zero, i.size, i.bytes)) = some (some (.string ByteArray.empty), 1, 16) := by kernel_rfl

def zeroTxts (n : Nat) : Obj := .cells (madeCells #[.string ByteArray.empty] (n * 1)) 9

theorem make_txts (n : Nat) (hn : n ≤ 1048576) (W : World) : (Instr.makeSlice 49 (.int .i64 (n : Int)) (.int .i64 (n : Int))).run Tryd.prog W = .ok (.slice (some ⟨W.heap.size, 0, none⟩) n n) (W.alloc (zeroTxts n)) :=
  run_make_n (P := Tryd.prog) 49 9 _ 1 16 infoStr Tryd.underlying49 n n (Nat.le_refl _) (by omega) (by omega) W

theorem zeroTxts_sl (n : Nat) (w : World) : TxtAt (w.alloc (zeroTxts n)) (w.heap.size + 1) (some ⟨w.heap.size, 0, none⟩) (List.replicate n ByteArray.empty) :=
  made_sl txV ByteArray.empty 1 n 9 w _ rfl rfl

end Go.Proofs.YthmpmagajbmpaaaDoor

/- The library's tables as the program's text lays them: from the condition of a row to what the contracts ask; a world that holds them. -/
namespace Go.Proofs.YthmpmagajbmpaaaDoor
open Go.ChangeShapes Go.WideShapes Go.ChangeAt Go.RowKit
set_option linter.unusedVariables false

theorem own : ownKnob Tryd.prog.godebug = none := by kernel_rfl
theorem laidOut : laidOutB Tryd.prog = true := by kernel_rfl

/-- the cells that a table's datum is -/
def tabCells : DataW Unit → Array Value
  | .agg l => (l.map fun | .lit (.int k z) => Value.int k z | _ => .nilIface).toArray
  | _ => #[]

/-- what a table is laid as -/
def layTab (d : DataW Unit) : Obj → Obj
  | .cells _ t frozen => .cells (tabCells d) t frozen
  | o => o

end Go.Proofs.YthmpmagajbmpaaaDoor

/- The library's tables and the program's paths of tiers as their texts lay them: from the condition of a row to what the contracts ask; a world that holds them; the variable reads behind the call as it read before. -/
namespace Go.Proofs.YthmpmagajbmpaaaDoor
open Go.ChangeShapes Go.WideShapes Go.ChangeAt Go.RowKit
set_option linter.unusedVariables false

theorem gTab : Tryd.prog.globalNamed "loop.example/g00601/impl.tierPaths" = some 2 := by kernel_rfl
theorem gTabType : (Tryd.prog.globals[2]?).map (·.type) = some 123 := by kernel_rfl
theorem cellsTab : Tryd.prog.cellsOf 123 = 3 := by kernel_rfl
theorem cellsStr : Tryd.prog.cellsOf 9 = 1 := by kernel_rfl

theorem bytes_inj {s : ByteArray} {z : List UInt8} (h : s.data.toList = z) : s = ⟨z.toArray⟩ := by
  subst h; rfl

/-- an array of texts that reads as a list of texts holds them, cell for cell -/
theorem cells_of_texts {H : Type} {enc : TypeId × Value → H} {P : Program} {w : World} {base : Nat} {sp : Nat → Bool} {held : Bool} {fuel : Nat} {t e : TypeId} {n : Nat} {cs : List Value} {zs : List (List UInt8)} {p : List MemPlace}
    (ht : P.underlying t = some (.array n e)) (he : P.underlying e = some .string) (hce : P.cellsOf e = 1) (hct : P.cellsOf t = n)
    (h : DataW.trod enc P w base sp held fuel t cs = some (.agg (zs.map fun z => .lit (.string z)), p)) : cs = zs.map fun z => Value.string ⟨z.toArray⟩ := by
  cases fuel with
  | zero => simp [DataW.trod] at h
  | succ fuel =>
    simp only [DataW.trod, ht, hce, hct, Nat.mul_one] at h
    split at h
    · rename_i hl
      obtain ⟨xs, hm, hx⟩ := Option.map_eq_some_iff.1 h
      have hxs : xs.map (·.1) = zs.map fun z => (DataW.lit (.string z) : DataW H) := by
        have := congrArg Prod.fst hx
        simpa using this
      have hxl : xs.length = n := by simpa using Lib.mapM_length hm
      have hzl : zs.length = n := by
        have := congrArg List.length hxs
        simp at this
        omega
      apply List.ext_getElem?
      intro i
      by_cases hi : i < n
      · obtain ⟨b, hb, hf⟩ := Lib.mapM_at hm i i (by simp [hi])
        obtain ⟨s, hc, rfl, _⟩ := DataW.trod_string he hf
        have h1 : cs[i]? = some (.string s) := by
          have := congrArg (·[0]?) hc
          simpa [List.getElem?_take, List.getElem?_drop] using this
        have h2 : (xs.map (·.1))[i]? = some (DataW.lit (.string s.data.toList) : DataW H) := by simp [hb]
        rw [hxs] at h2
        simp only [List.getElem?_map, Option.map_eq_some_iff, DataW.lit.injEq, Lit.string.injEq] at h2
        obtain ⟨z', hz', e1⟩ := h2
        have e2 : s = ⟨z'.toArray⟩ := bytes_inj e1.symm
        simp [h1, hz', e2]
      · rw [List.getElem?_eq_none (by omega), List.getElem?_eq_none (by simp; omega)]
    · cases h

/-- the paths, byte by byte -/
def pl : List (List UInt8) := [[114, 97, 119, 47], [116, 49, 47], [116, 50, 47]]

theorem paths_cells {W : World} {cs : Array Value} (hvar : W.var? Tryd.prog "loop.example/g00601/impl.tierPaths" = some cs) (hcs : cs.toList = pl.map fun z => Value.string ⟨z.toArray⟩) : Paths W ∧ 2 < W.heap.size := by
  have hp : Paths W := by
    intro i hi
    have hv := World.var?_cell gTab hvar i
    rw [hv]
    have : cs[i]? = cs.toList[i]? := by simp
    rw [this, hcs]
    match i, hi with
    | 0, _ => rfl
    | 1, _ => rfl
    | 2, _ => rfl
  exact ⟨hp, World.block_lt_of_cell? W ⟨2, 0, none⟩ (hp 0 (by omega))⟩

theorem paths_of1 {W : World} (h : laidMet Tryd.prog [("loop.example/g00601/impl.tierPaths", Rows.laid_loop_example_g00601_impl_tierPaths)] W) : Paths W ∧ 2 < W.heap.size := by
  obtain ⟨ps, ⟨g', t', cs, fuel, p, q, hg', ht', hvar, hd, _, _⟩, _⟩ := h
  obtain rfl := Option.some.inj (gTab.symm.trans hg')
  obtain rfl := Option.some.inj (gTabType.symm.trans ht')
  have hd' : DataW.trod (fun _ => ()) Tryd.prog W 0 (fun _ => true) false fuel 123 cs.toList = some (.agg (pl.map fun z => .lit (.string z)), p) := hd
  exact paths_cells hvar (cells_of_texts Tryd.underlying123 Tryd.underlying9 cellsStr cellsTab hd')

theorem paths_of4 {W : World} {n1 n2 n3 : String} {d1 d2 d3 : DataW Unit} (h : laidMet Tryd.prog [(n1, d1), (n2, d2), (n3, d3), ("loop.example/g00601/impl.tierPaths", Rows.laid_loop_example_g00601_impl_tierPaths)] W) : Paths W ∧ 2 < W.heap.size := by
  obtain ⟨ps, ⟨g1, t1, cs1, f1, p1, q1, _, _, _, _, ⟨g2, t2, cs2, f2, p2, q2, _, _, _, _, ⟨g3, t3, cs3, f3, p3, q3, _, _, _, _, ⟨g', t', cs, fuel, p, q, hg', ht', hvar, hd, _, _⟩, _⟩, _⟩, _⟩, _⟩ := h
  obtain rfl := Option.some.inj (gTab.symm.trans hg')
  obtain rfl := Option.some.inj (gTabType.symm.trans ht')
  have hd' : DataW.trod (fun _ => ()) Tryd.prog W 0 (fun _ => true) false fuel 123 cs.toList = some (.agg (pl.map fun z => .lit (.string z)), p) := hd
  exact paths_cells hvar (cells_of_texts Tryd.underlying123 Tryd.underlying9 cellsStr cellsTab hd')

/-- the variable reads behind the call as it read ahead of it -/
theorem vars_back {H : Type} {enc : TypeId × Value → H} {W W' : World} {gs : List (DataW H)} {q : List MemPlace} (h : DataW.TrodVars enc Tryd.prog W (fun _ => true) ["loop.example/g00601/impl.tierPaths"] gs q) (hb : Below W.heap.size W W') (h0 : 2 < W.heap.size) (hlt : ∀ x ∈ q, x.block < W.heap.size) :
    DataW.TrodVars enc Tryd.prog W' (fun b => decide (b < W.heap.size)) ["loop.example/g00601/impl.tierPaths"] gs q := by
  obtain ⟨g, t, cs, fuel, d, p, rfl, h1, h2, h3, h4, rfl⟩ := trodVars_one h
  obtain rfl := Option.some.inj (gTab.symm.trans h1)
  obtain rfl := Option.some.inj (gTabType.symm.trans h2)
  have k : DataW.Trod enc Tryd.prog W 0 (fun _ => true) true 123 (.agg cs) d p := ⟨fuel, h4⟩
  obtain ⟨fuel', h4'⟩ := Below.trod laidOut (by kernel_rfl) (of_decide_eq_true (by kernel_rfl)) k hb (fun x hx => hlt x (List.mem_append_right _ hx))
  exact trodVars_mk1 h1 h2 (var?_below hb gTab h0 h3) h4'

/-- the cells that a table's datum is -/
def tabCellsK : DataW Unit → Array Value
  | .agg l => (l.map fun | .lit (.int k z) => Value.int k z | .lit (.string z) => Value.string ⟨z.toArray⟩ | _ => .nilIface).toArray
  | _ => #[]

/-- what a table is laid as -/
def layTabK (d : DataW Unit) : Obj → Obj
  | .cells _ t frozen => .cells (tabCellsK d) t frozen
  | o => o

end Go.Proofs.YthmpmagajbmpaaaDoor

/- What a row ties, whichever of the tables it names: one of what is laid, by its name; the program's variables read behind the call as they read ahead of it; worlds that hold the tables. -/
namespace Go.Proofs.YthmpmagajbmpaaaDoor
open Go.ChangeShapes Go.WideShapes Go.ChangeAt Go.RowKit
set_option linter.unusedVariables false

theorem laidVars_at {P : Program} {W : World} : ∀ {L : List (String × DataW Unit)} {ps : List MemPlace}, DataW.LaidVars P W L ps → ∀ {n : String} {d : DataW Unit}, (n, d) ∈ L → ∃ g t cs fuel p, P.globalNamed n = some g ∧ (P.globals[g]?).map (·.type) = some t ∧ W.var? P n = some cs ∧ DataW.trod (fun _ => ()) P W 0 (fun _ => true) false fuel t cs.toList = some (d, p)
  | [], _, _, _, _, hm => by cases hm
  | (n', d') :: r, ps, h, n, d, hm => by
    obtain ⟨g, t, cs, fuel, p, q, h1, h2, h3, h4, h5, _⟩ := h
    rcases List.mem_cons.1 hm with e | hm
    · cases e; exact ⟨g, t, cs, fuel, p, h1, h2, h3, h4⟩
    · exact laidVars_at h5 hm

theorem laid_at {P : Program} {W : World} {L : List (String × DataW Unit)} (h : laidMet P L W) {n : String} {d : DataW Unit} (hm : (n, d) ∈ L) : ∃ g t cs fuel p, P.globalNamed n = some g ∧ (P.globals[g]?).map (·.type) = some t ∧ W.var? P n = some cs ∧ DataW.trod (fun _ => ()) P W 0 (fun _ => true) false fuel t cs.toList = some (d, p) := by
  obtain ⟨ps, h, _⟩ := h
  exact laidVars_at h hm

theorem paths_in {W : World} {L : List (String × DataW Unit)} (h : laidMet Tryd.prog L W) (hm : ("loop.example/g00601/impl.tierPaths", Rows.laid_loop_example_g00601_impl_tierPaths) ∈ L) : Paths W ∧ 2 < W.heap.size := by
  obtain ⟨g', t', cs, fuel, p, hg', ht', hvar, hd⟩ := laid_at h hm
  obtain rfl := Option.some.inj (gTab.symm.trans hg')
  obtain rfl := Option.some.inj (gTabType.symm.trans ht')
  have hd' : DataW.trod (fun _ => ()) Tryd.prog W 0 (fun _ => true) false fuel 123 cs.toList = some (.agg (pl.map fun z => .lit (.string z)), p) := hd
  exact paths_cells hvar (cells_of_texts Tryd.underlying123 Tryd.underlying9 cellsStr cellsTab hd')

theorem gWidA : Tryd.prog.globalNamed "loop.example/g00601/impl.tierWidths" = some 0 := by kernel_rfl
theorem gWidTypeA : (Tryd.prog.globals[0]?).map (·.type) = some 24 := by kernel_rfl
theorem cellsTriA : Tryd.prog.cellsOf 24 = 3 := by kernel_rfl
theorem cellsIntA : Tryd.prog.cellsOf 3 = 1 := by kernel_rfl
theorem widDataA : (Rows.laid_loop_example_g00601_impl_tierWidths : DataW Unit) = Lib.tabData .i64 [1, 5, 20] := rfl

theorem wid_in {W : World} {L : List (String × DataW Unit)} (h : laidMet Tryd.prog L W) (hm : ("loop.example/g00601/impl.tierWidths", Rows.laid_loop_example_g00601_impl_tierWidths) ∈ L) : Tab3 0 wid W ∧ 0 < W.heap.size := by
  obtain ⟨g', t', cs, fuel, p, hg', ht', hvar, hd⟩ := laid_at h hm
  obtain rfl := Option.some.inj (gWidA.symm.trans hg')
  obtain rfl := Option.some.inj (gWidTypeA.symm.trans ht')
  rw [widDataA] at hd
  have hcs := Lib.cells_of_tab Tryd.underlying24 Tryd.underlying3 cellsIntA cellsTriA hd
  have hp : Tab3 0 wid W := by
    intro i hi
    rw [World.var?_cell gWidA hvar i]
    have : cs[i]? = cs.toList[i]? := by simp
    rw [this, hcs, List.getElem?_map]
    rcases three hi with rfl | rfl | rfl <;> rfl
  exact ⟨hp, World.block_lt_of_cell? W ⟨0, 0, none⟩ (hp 0 (by omega))⟩

/-- the program's variables read behind the call as they read ahead of it -/
theorem vars_backs {H : Type} {enc : TypeId × Value → H} {W W' : World} (hb : Below W.heap.size W W') : ∀ (ns : List String) (gs : List (DataW H)) (q : List MemPlace), (∀ n ∈ ns, ∃ g t, Tryd.prog.globalNamed n = some g ∧ (Tryd.prog.globals[g]?).map (·.type) = some t ∧ (t = 123 ∨ t = 24) ∧ g < W.heap.size) →
    DataW.TrodVars enc Tryd.prog W (fun _ => true) ns gs q → (∀ x ∈ q, x.block < W.heap.size) → DataW.TrodVars enc Tryd.prog W' (fun b => decide (b < W.heap.size)) ns gs q
  | [], [], q, _, h, _ => h
  | n :: ns, d :: gs, q, hn, h, hlt => by
    obtain ⟨g, t, cs, fuel, p, q', h1, h2, h3, h4, h5, rfl⟩ := h
    obtain ⟨g', t', e1, e2, et, hz⟩ := hn n (by simp)
    obtain rfl := Option.some.inj (e1.symm.trans h1)
    obtain rfl := Option.some.inj (e2.symm.trans h2)
    have k : DataW.Trod enc Tryd.prog W 0 (fun _ => true) true t' (.agg cs) d p := ⟨fuel, h4⟩
    have k2 : DataW.Trod enc Tryd.prog W' 0 (fun b => decide (b < W.heap.size)) true t' (.agg cs) d p := by
      rcases et with rfl | rfl
      · exact Below.trod laidOut (by kernel_rfl) (of_decide_eq_true (by kernel_rfl)) k hb (fun x hx => hlt x (List.mem_append_left _ (List.mem_append_right _ hx)))
      · exact Below.trod laidOut (by kernel_rfl) (of_decide_eq_true (by kernel_rfl)) k hb (fun x hx => hlt x (List.mem_append_left _ (List.mem_append_right _ hx)))
    obtain ⟨fuel', h4'⟩ := k2
    exact ⟨g', t', cs, fuel', p, q', h1, h2, var?_below hb h1 hz h3, h4', vars_backs hb ns gs q' (fun m hm => hn m (List.mem_cons_of_mem _ hm)) h5 (fun x hx => hlt x (List.mem_append_right _ hx)), rfl⟩
  | [], _ :: _, _, _, h, _ => by cases h
  | _ :: _, [], _, _, h, _ => by cases h

/-- the cells that a table's datum is, of numbers, of texts or of structs of numbers -/
def tabCellsA : DataW Unit → Array Value
  | .agg l => (l.flatMap fun | .lit (.int k z) => [Value.int k z] | .lit (.string z) => [Value.string ⟨z.toArray⟩] | .agg m => (m.map fun | .lit (.int k z) => Value.int k z | _ => .nilIface) | _ => []).toArray
  | _ => #[]

def layTabA (d : DataW Unit) : Obj → Obj
  | .cells _ t frozen => .cells (tabCellsA d) t frozen
  | o => o

end Go.Proofs.YthmpmagajbmpaaaDoor

/- The program's tables of keeping, and a world that holds its paths, its widths and what is kept, and no table of the library's. -/
namespace Go.Proofs.YthmpmagajbmpaaaDoor
open Go.ChangeShapes Go.WideShapes Go.ChangeAt Go.RowKit
set_option linter.unusedVariables false

theorem gKepA : Tryd.prog.globalNamed "loop.example/g00601/impl.tierKeeps" = some 1 := by kernel_rfl
theorem gKepTypeA : (Tryd.prog.globals[1]?).map (·.type) = some 24 := by kernel_rfl
theorem kepDataA : (Rows.laid_loop_example_g00601_impl_tierKeeps : DataW Unit) = Lib.tabData .i64 [40, 100, 400] := rfl

theorem kep_in {W : World} {L : List (String × DataW Unit)} (h : laidMet Tryd.prog L W) (hm : ("loop.example/g00601/impl.tierKeeps", Rows.laid_loop_example_g00601_impl_tierKeeps) ∈ L) : Tab3 1 kep W ∧ 1 < W.heap.size := by
  obtain ⟨g', t', cs, fuel, p, hg', ht', hvar, hd⟩ := laid_at h hm
  obtain rfl := Option.some.inj (gKepA.symm.trans hg')
  obtain rfl := Option.some.inj (gKepTypeA.symm.trans ht')
  rw [kepDataA] at hd
  have hcs := Lib.cells_of_tab Tryd.underlying24 Tryd.underlying3 cellsIntA cellsTriA hd
  have hp : Tab3 1 kep W := by
    intro i hi
    rw [World.var?_cell gKepA hvar i]
    have : cs[i]? = cs.toList[i]? := by simp
    rw [this, hcs, List.getElem?_map]
    rcases three hi with rfl | rfl | rfl <;> rfl
  exact ⟨hp, World.block_lt_of_cell? W ⟨1, 0, none⟩ (hp 0 (by omega))⟩

/-- a world that holds the program's tables -/
noncomputable def laidWorldP (os : Os) : World :=
  { World.holding Tryd.prog os ⟨#[], #[], []⟩ with heap := (((World.holding Tryd.prog os ⟨#[], #[], []⟩).heap.modify 2 (layTabA Rows.laid_loop_example_g00601_impl_tierPaths)).modify 0 (layTabA Rows.laid_loop_example_g00601_impl_tierWidths)).modify 1 (layTabA Rows.laid_loop_example_g00601_impl_tierKeeps) }

end Go.Proofs.YthmpmagajbmpaaaDoor

/- Arguments that are records and states, opened. No Go text is walked here. -/
namespace Go.Proofs.YthmpmagajbmpaaaDoor
open Go.ChangeShapes Go.WideShapes Go.ChangeAt Go.RowKit Go.Deep Go.Joins
set_option linter.unusedVariables false
set_option linter.unusedSimpArgs false

section

variable {H : Type} {enc : TypeId × Value → H} {base : Nat} {spare : Nat → Bool} {held : Bool}

theorem trod_fields {P : Program} {w : World} {t : TypeId} {fs : Array Field} {fuel : Nat} {cs : List Value} {x : DataW H × List MemPlace} (ht : P.underlying t = some (.struct fs)) (h : DataW.trod enc P w base spare held fuel t cs = some x) :
    cs.length = P.cellsOf t ∧ ∃ n, ∀ (i : Nat) (f : Field), fs[i]? = some f → ∃ y, DataW.trod enc P w base spare held n f.type ((cs.drop f.offset).take (P.cellsOf f.type)) = some y := by
  obtain ⟨xs, n, _, rfl, hl, hlen, hf⟩ := DataW.trod_struct ht h
  refine ⟨hl, n, fun i f hi => ?_⟩
  have h1 := hf i f hi
  have hil : i < xs.length := by
    rw [hlen]
    exact (Array.getElem?_eq_some_iff.1 hi).1
  rw [List.getElem?_eq_getElem hil] at h1
  exact ⟨_, h1⟩

theorem open_ent' {P : Program} {w : World} {t : TypeId} {f0 f1 f2 f3 : Field} {n : Nat} {cs : List Value} {y : DataW H × List MemPlace} (ht : P.underlying t = some (.struct #[f0, f1, f2, f3])) (hone : oneCellFields P #[f0, f1, f2, f3] = true)
    (g0 : P.underlying f0.type = some (.int .i64)) (g1 : P.underlying f1.type = some (.int .i64)) (g2 : P.underlying f2.type = some (.int .i64)) (g3 : P.underlying f3.type = some .string) (hl : cs.length = 4) (h : DataW.trod enc P w base spare held n t cs = some y) : ∃ o : GEnt, cs = o.vals ∧ o.fit := by
  obtain ⟨_, m, hf⟩ := trod_fields ht h
  obtain ⟨y0, h0⟩ := hf 0 f0 rfl
  obtain ⟨o0, k0⟩ := hone_of hone 0 f0 rfl
  rw [o0, k0] at h0
  obtain ⟨y1, h1⟩ := hf 1 f1 rfl
  obtain ⟨o1, k1⟩ := hone_of hone 1 f1 rfl
  rw [o1, k1] at h1
  obtain ⟨y2, h2⟩ := hf 2 f2 rfl
  obtain ⟨o2, k2⟩ := hone_of hone 2 f2 rfl
  rw [o2, k2] at h2
  obtain ⟨y3, h3⟩ := hf 3 f3 rfl
  obtain ⟨o3, k3⟩ := hone_of hone 3 f3 rfl
  rw [o3, k3] at h3
  match cs, hl with
  | [x0, x1, x2, x3], _ =>
    obtain ⟨z0, e0, _, l0⟩ := DataW.trod_int g0 h0
    obtain ⟨z1, e1, _, l1⟩ := DataW.trod_int g1 h1
    obtain ⟨z2, e2, _, l2⟩ := DataW.trod_int g2 h2
    obtain ⟨z3, e3, _, l3⟩ := DataW.trod_string g3 h3
    simp at e0 e1 e2 e3
    subst e0 e1 e2 e3
    exact ⟨⟨z0, z1, z2, z3⟩, rfl, i64_of_wf l0, i64_of_wf l1, i64_of_wf l2, l3⟩

theorem open_tmb' {P : Program} {w : World} {t : TypeId} {f0 f1 : Field} {n : Nat} {cs : List Value} {y : DataW H × List MemPlace} (ht : P.underlying t = some (.struct #[f0, f1])) (hone : oneCellFields P #[f0, f1] = true)
    (g0 : P.underlying f0.type = some (.int .i64)) (g1 : P.underlying f1.type = some .string) (hl : cs.length = 2) (h : DataW.trod enc P w base spare held n t cs = some y) : ∃ o : GTmb, cs = o.vals ∧ o.fit := by
  obtain ⟨_, m, hf⟩ := trod_fields ht h
  obtain ⟨y0, h0⟩ := hf 0 f0 rfl
  obtain ⟨o0, k0⟩ := hone_of hone 0 f0 rfl
  rw [o0, k0] at h0
  obtain ⟨y1, h1⟩ := hf 1 f1 rfl
  obtain ⟨o1, k1⟩ := hone_of hone 1 f1 rfl
  rw [o1, k1] at h1
  match cs, hl with
  | [x0, x1], _ =>
    obtain ⟨z0, e0, _, l0⟩ := DataW.trod_int g0 h0
    obtain ⟨z1, e1, _, l1⟩ := DataW.trod_string g1 h1
    simp at e0 e1
    subst e0 e1
    exact ⟨⟨z0, z1⟩, rfl, i64_of_wf l0, l1⟩

theorem open_rec' {P : Program} {w : World} {t : TypeId} {f0 f1 f2 f3 f4 f5 : Field} {n : Nat} {cs : List Value} {y : DataW H × List MemPlace} (ht : P.underlying t = some (.struct #[f0, f1, f2, f3, f4, f5])) (hone : oneCellFields P #[f0, f1, f2, f3, f4, f5] = true)
    (g0 : P.underlying f0.type = some (.int .i64)) (g1 : P.underlying f1.type = some (.int .i64)) (g2 : P.underlying f2.type = some (.int .i64)) (g3 : P.underlying f3.type = some (.int .i64)) (g4 : P.underlying f4.type = some (.int .i64)) (g5 : P.underlying f5.type = some .string) (hl : cs.length = 6) (h : DataW.trod enc P w base spare held n t cs = some y) : ∃ o : GRec, cs = o.vals ∧ o.fit := by
  obtain ⟨_, m, hf⟩ := trod_fields ht h
  obtain ⟨y0, h0⟩ := hf 0 f0 rfl
  obtain ⟨o0, k0⟩ := hone_of hone 0 f0 rfl
  rw [o0, k0] at h0
  obtain ⟨y1, h1⟩ := hf 1 f1 rfl
  obtain ⟨o1, k1⟩ := hone_of hone 1 f1 rfl
  rw [o1, k1] at h1
  obtain ⟨y2, h2⟩ := hf 2 f2 rfl
  obtain ⟨o2, k2⟩ := hone_of hone 2 f2 rfl
  rw [o2, k2] at h2
  obtain ⟨y3, h3⟩ := hf 3 f3 rfl
  obtain ⟨o3, k3⟩ := hone_of hone 3 f3 rfl
  rw [o3, k3] at h3
  obtain ⟨y4, h4⟩ := hf 4 f4 rfl
  obtain ⟨o4, k4⟩ := hone_of hone 4 f4 rfl
  rw [o4, k4] at h4
  obtain ⟨y5, h5⟩ := hf 5 f5 rfl
  obtain ⟨o5, k5⟩ := hone_of hone 5 f5 rfl
  rw [o5, k5] at h5
  match cs, hl with
  | [x0, x1, x2, x3, x4, x5], _ =>
    obtain ⟨z0, e0, _, l0⟩ := DataW.trod_int g0 h0
    obtain ⟨z1, e1, _, l1⟩ := DataW.trod_int g1 h1
    obtain ⟨z2, e2, _, l2⟩ := DataW.trod_int g2 h2
    obtain ⟨z3, e3, _, l3⟩ := DataW.trod_int g3 h3
    obtain ⟨z4, e4, _, l4⟩ := DataW.trod_int g4 h4
    obtain ⟨z5, e5, _, l5⟩ := DataW.trod_string g5 h5
    simp at e0 e1 e2 e3 e4 e5
    subst e0 e1 e2 e3 e4 e5
    exact ⟨⟨z0, z1, z2, z3, z4, z5⟩, rfl, i64_of_wf l0, i64_of_wf l1, i64_of_wf l2, i64_of_wf l3, i64_of_wf l4, l5⟩

theorem open_tri' {P : Program} {w : World} {t e : TypeId} {n : Nat} {x0 x1 x2 : Value} {y : DataW H × List MemPlace} (ht : P.underlying t = some (.array 3 e)) (hce : P.cellsOf e = 1) (he : P.underlying e = some (.int .i64)) (h : DataW.trod enc P w base spare held n t [x0, x1, x2] = some y) :
    ∃ a : GTri, x0 = .int .i64 a.a ∧ x1 = .int .i64 a.b ∧ x2 = .int .i64 a.c ∧ a.fit := by
  obtain ⟨y0, y1, y2, m, _, h0, h1, h2⟩ := trod_array3 ht hce h
  obtain ⟨z0, e0, _, l0⟩ := DataW.trod_int he h0
  obtain ⟨z1, e1, _, l1⟩ := DataW.trod_int he h1
  obtain ⟨z2, e2, _, l2⟩ := DataW.trod_int he h2
  simp at e0 e1 e2
  exact ⟨⟨z0, z1, z2⟩, e0, e1, e2, i64_of_wf l0, i64_of_wf l1, i64_of_wf l2⟩

/-- a record that came in -/
theorem open_rec0 {P : Program} {t : TypeId} {f0 f1 f2 f3 f4 f5 : Field} {W : World} {r : Reach} {b0 : Nat} {v : Value} {d : DataW H} {p : List MemPlace} (ht : P.underlying t = some (.struct #[f0, f1, f2, f3, f4, f5])) (hone : oneCellFields P #[f0, f1, f2, f3, f4, f5] = true) (hC : P.cellsOf t = 6)
    (g0 : P.underlying f0.type = some (.int .i64)) (g1 : P.underlying f1.type = some (.int .i64)) (g2 : P.underlying f2.type = some (.int .i64)) (g3 : P.underlying f3.type = some (.int .i64)) (g4 : P.underlying f4.type = some (.int .i64)) (g5 : P.underlying f5.type = some .string)
    (hv : Value.okWide P W r b0 t v) (h : DataW.Trod enc P W base spare held t v d p) : ∃ a : GRec, v = .agg #[.int .i64 a.kind, .int .i64 a.tok, .int .i64 a.tier, .int .i64 a.beg, .int .i64 a.fin, .string a.key] ∧ a.fit := by
  obtain ⟨cs, rfl, hsz⟩ := okWide_struct ht hv
  obtain ⟨fuel, hf⟩ := h
  obtain ⟨l⟩ := cs
  simp only [Value.cells] at hf
  obtain ⟨a, e, hfit⟩ := open_rec' ht hone g0 g1 g2 g3 g4 g5 (by have := (trod_fields ht hf).1; rw [hC] at this; exact this) hf
  subst e
  exact ⟨a, rfl, hfit⟩

/-- a state's numbers fit, its lists' elements too -/
def GSt.fit (s : GSt) : Prop := I64 s.sq ∧ I64 s.fe ∧ s.lo.fit ∧ s.hi.fit ∧ (∀ o ∈ s.ents, o.fit) ∧ (∀ o ∈ s.tmbs, o.fit) ∧ s.ents.length ≤ maxLen ∧ s.tmbs.length ≤ maxLen

theorem open_st' {P : Program} {t e1 e2 e3 : TypeId} {f0 f1 f2 f3 f4 f5 g0 g1 g2 g3 k0 k1 : Field} {W : World} {r : Reach} {b0 : Nat} {v : Value} {d : DataW H} {p : List MemPlace} (ht : P.underlying t = some (.struct #[f0, f1, f2, f3, f4, f5])) (hC : P.cellsOf t = 10)
    (o0 : f0.offset = 0) (o1 : f1.offset = 1) (o2 : f2.offset = 2) (o3 : f3.offset = 3) (o4 : f4.offset = 4) (o5 : f5.offset = 7)
    (c0 : P.cellsOf f0.type = 1) (c1 : P.cellsOf f1.type = 1) (c2 : P.cellsOf f2.type = 1) (c3 : P.cellsOf f3.type = 1) (c4 : P.cellsOf f4.type = 3) (c5 : P.cellsOf f5.type = 3)
    (u0 : P.underlying f0.type = some (.int .i64)) (u1 : P.underlying f1.type = some (.int .i64)) (u2 : P.underlying f2.type = some (.slice e1)) (u3 : P.underlying f3.type = some (.slice e2)) (u4 : P.underlying f4.type = some (.array 3 e3)) (u5 : P.underlying f5.type = some (.array 3 e3)) (ce : P.cellsOf e3 = 1) (ue : P.underlying e3 = some (.int .i64))
    (he : P.underlying e1 = some (.struct #[g0, g1, g2, g3])) (hone1 : oneCellFields P #[g0, g1, g2, g3] = true) (hce : P.cellsOf e1 = 4) (a0 : P.underlying g0.type = some (.int .i64)) (a1 : P.underlying g1.type = some (.int .i64)) (a2 : P.underlying g2.type = some (.int .i64)) (a3 : P.underlying g3.type = some .string)
    (hk : P.underlying e2 = some (.struct #[k0, k1])) (hone2 : oneCellFields P #[k0, k1] = true) (hck : P.cellsOf e2 = 2) (m0 : P.underlying k0.type = some (.int .i64)) (m1 : P.underlying k1.type = some .string)
    (hv : Value.okWide P W r b0 t v) (h : DataW.Trod enc P W base spare held t v d p) :
    ∃ (A : Option Addr) (c : Nat) (A2 : Option Addr) (c2 : Nat) (s : GSt), v = .agg #[.int .i64 s.sq, .int .i64 s.fe, .slice A s.ents.length c, .slice A2 s.tmbs.length c2, .int .i64 s.lo.a, .int .i64 s.lo.b, .int .i64 s.lo.c, .int .i64 s.hi.a, .int .i64 s.hi.b, .int .i64 s.hi.c] ∧ StAt W W.heap.size A A2 s ∧ s.fit := by
  obtain ⟨cs, rfl, hsz⟩ := okWide_struct ht hv
  obtain ⟨fuel, hf⟩ := h
  obtain ⟨l⟩ := cs
  simp only [Value.cells] at hf
  obtain ⟨hl, n, hfs⟩ := trod_fields ht hf
  rw [hC] at hl
  obtain ⟨y0, h0⟩ := hfs 0 f0 rfl
  obtain ⟨y1, h1⟩ := hfs 1 f1 rfl
  obtain ⟨y2, h2⟩ := hfs 2 f2 rfl
  obtain ⟨y3, h3⟩ := hfs 3 f3 rfl
  obtain ⟨y4, h4⟩ := hfs 4 f4 rfl
  obtain ⟨y5, h5⟩ := hfs 5 f5 rfl
  rw [o0, c0] at h0
  rw [o1, c1] at h1
  rw [o2, c2] at h2
  rw [o3, c3] at h3
  rw [o4, c4] at h4
  rw [o5, c5] at h5
  clear hsz hf hfs hv
  match l, hl with
  | [x0, x1, x2, x3, x4, x5, x6, x7, x8, x9], _ =>
    obtain ⟨z0, q0, _, l0⟩ := DataW.trod_int u0 h0
    obtain ⟨z1, q1, _, l1⟩ := DataW.trod_int u1 h1
    obtain ⟨A, c, xs, q2, s2, t2, l2⟩ := open_sl GEnt.vals 4 GEnt.fit u2 hce (by omega) (fun n cs y hc hy => open_ent' he hone1 a0 a1 a2 a3 hc hy) (v := x2) h2
    obtain ⟨A2, c2, ys, q3, s3, t3, l3⟩ := open_sl GTmb.vals 2 GTmb.fit u3 hck (by omega) (fun n cs y hc hy => open_tmb' hk hone2 m0 m1 hc hy) (v := x3) h3
    obtain ⟨lo, p4, p5, p6, flo⟩ := open_tri' u4 ce ue (x0 := x4) (x1 := x5) (x2 := x6) h4
    obtain ⟨hi, p7, p8, p9, fhi⟩ := open_tri' u5 ce ue (x0 := x7) (x1 := x8) (x2 := x9) h5
    simp at q0 q1
    subst q0 q1 q2 q3 p4 p5 p6 p7 p8 p9
    exact ⟨A, c, A2, c2, ⟨z0, z1, xs, ys, lo, hi⟩, rfl, ⟨s2, s3⟩, i64_of_wf l0, i64_of_wf l1, flo, fhi, t2, t3, l2, l3⟩

theorem cellsLSt : Tryd.prog.cellsOf 26 = 10 := by kernel_rfl

set_option maxRecDepth 100000 in
theorem open_lst {W : World} {r : Reach} {b0 : Nat} {v : Value} {d : DataW H} {p : List MemPlace} (hv : Value.okWide Tryd.prog W r b0 26 v) (h : DataW.Trod enc Tryd.prog W base spare held 26 v d p) :
    ∃ (A : Option Addr) (c : Nat) (A2 : Option Addr) (c2 : Nat) (s : GSt), v = .agg #[.int .i64 s.sq, .int .i64 s.fe, .slice A s.ents.length c, .slice A2 s.tmbs.length c2, .int .i64 s.lo.a, .int .i64 s.lo.b, .int .i64 s.lo.c, .int .i64 s.hi.a, .int .i64 s.hi.b, .int .i64 s.hi.c] ∧ StAt W W.heap.size A A2 s ∧ s.fit :=
  open_st' Tryd.underlying26 cellsLSt rfl rfl rfl rfl rfl rfl (by kernel_rfl) (by kernel_rfl) (by kernel_rfl) (by kernel_rfl) (by kernel_rfl) (by kernel_rfl) Tryd.underlying3 Tryd.underlying3 Tryd.underlying22 Tryd.underlying23 Tryd.underlying24 Tryd.underlying24 (by kernel_rfl) Tryd.underlying3
    Tryd.underlying87 (by kernel_rfl) (by kernel_rfl) Tryd.underlying3 Tryd.underlying3 Tryd.underlying3 Tryd.underlying9 Tryd.underlying90 (by kernel_rfl) (by kernel_rfl) Tryd.underlying3 Tryd.underlying9 hv h

end

end Go.Proofs.YthmpmagajbmpaaaDoor
