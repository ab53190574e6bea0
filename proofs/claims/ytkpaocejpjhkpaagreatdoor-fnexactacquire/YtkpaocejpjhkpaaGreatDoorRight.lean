/-
  Contract of (Store).right, and of StoreOK: true just of a store.
-/
import Derived.Test.YtkpaocejpjhkpaaGreatDoorIntSet
namespace Go.Proofs.YtkpaocejpjhkpaaGreatDoor
open Go.ChangeShapes Go.WideShapes Go.ChangeAt Go.RowKit Go.Maps
set_option linter.unusedVariables false

theorem wf_ver {o : GObj} (h : o.fit) : (Lit.int .i64 o.ver).wf = true := h.2

def vers (xs : List GObj) (k : Nat) : List Int := ((xs.take k).map (·.ver)).reverse

theorem vers_has (xs : List GObj) (k : Nat) (v : Int) (hk : k ≤ xs.length) : (vers xs k).contains v = true ↔ ∃ i, ∃ h : i < xs.length, i < k ∧ xs[i].ver = v := by
  simp only [vers, List.contains_iff_mem, List.mem_reverse, List.mem_map]
  constructor
  · rintro ⟨o, ho, rfl⟩
    obtain ⟨i, hi, rfl⟩ := List.mem_iff_getElem.1 ho
    simp at hi
    exact ⟨i, by omega, by omega, by simp⟩
  · rintro ⟨i, h, hik, rfl⟩
    exact ⟨xs[i], List.mem_iff_getElem.2 ⟨i, by simp; omega, by simp⟩, rfl⟩

theorem vers_succ (xs : List GObj) (k : Nat) (hk : k < xs.length) : vers xs (k + 1) = xs[k].ver :: vers xs k := by
  unfold vers
  rw [List.take_succ_eq_append_getElem hk, List.map_append, List.reverse_append]
  rfl

theorem PreOK.succ {xs : List GObj} {next : Int} {k : Nat} (h : PreOK xs next k) (hk : k < xs.length) (ho : ObjOK next xs[k]) (hv : (vers xs k).contains xs[k].ver = false) (hb : ∀ h0 : 0 < k, bl xs[k - 1].key xs[k].key = true) : PreOK xs next (k + 1) := by
  refine ⟨fun i hi hik => ?_, fun i hi hik => ?_, fun i j hj hij hjk => ?_⟩
  · by_cases e : i = k
    · subst e; exact ho
    · exact h.1 i hi (by omega)
  · by_cases e : i + 1 = k
    · subst e; exact hb (by omega)
    · exact h.2.1 i hi (by omega)
  · by_cases e : j = k
    · subst e
      intro he
      have := (vers_has xs j xs[j].ver (by omega)).2 ⟨i, by omega, hij, he⟩
      rw [hv] at this
      cases this
    · exact h.2.2 i j hj hij (by omega)

theorem not_store_obj {xs : List GObj} {next : Int} {k : Nat} (hk : k < xs.length) (h : ¬ ObjOK next xs[k]) : ¬ StoreP xs next := fun hs => h (hs.2.2.2.1 k hk hk)

theorem not_store_ver {xs : List GObj} {next : Int} {k : Nat} (hk : k < xs.length) (h : (vers xs k).contains xs[k].ver = true) : ¬ StoreP xs next := fun hs => by
  obtain ⟨i, hi, hik, he⟩ := (vers_has xs k _ (by omega)).1 h
  exact hs.2.2.2.2.2 i k hk hik hk he

theorem not_store_key {xs : List GObj} {next : Int} {k : Nat} (hk : k < xs.length) (h0 : 0 < k) (h : bl xs[k - 1].key xs[k].key = false) : ¬ StoreP xs next := fun hs => by
  have := hs.2.2.2.2.1 (k - 1) (by omega) (by omega)
  have e : k - 1 + 1 = k := by omega
  simp only [e] at this
  rw [h] at this
  cases this

set_option maxRecDepth 100000 in
theorem right_in (A : Option Addr) (c : Nat) (next : Int) (xs : List GObj) (B : Nat) (w : World) (h : ObjsAt w B A xs) (hB : B ≤ w.heap.size) (hf : ∀ o ∈ xs, o.fit) (n1 : 1 ≤ next) (n2 : next ≤ 1000000000) (hl : xs.length ≤ 300) :
    Calls Tryz.prog 43 #[.agg #[.slice A xs.length c, .int .i64 next]] w (IsBB (StoreP xs next) w) := by
  have H := Lib.hid h; clear h
  have Hf := Lib.hid hf; clear hf
  have d1 : decide (next < 1) = false := by simp; omega
  have d2 : decide (1000000000 < next) = false := by simp; omega
  have d3 : decide (300 < (xs.length : Int)) = false := by simp; omega
  have hmk := run_makeMap_some 92 3 4 (xs.length : Int) Tryz.underlying92
  go_enter Tryz.func43, Tryz.ntmps43
  go_wp2_with fail
  obtain ⟨W, hW⟩ : ∃ W, W = (w.alloc (.cells #[.slice A xs.length c, .int .i64 next] 28)).alloc (.map #[] 0) := ⟨_, rfl⟩
  have t0 : Two W w.heap.size (.slice A xs.length c) (.int .i64 next) := by rw [hW]; exact (Two.new _ _ _ _).alloc (by simp) _
  have m0 : IntSet W (w.heap.size + 1) (vers xs 0) := by
    rw [hW]; have := IntSet.made (w.alloc (.cells #[.slice A xs.length c, .int .i64 next] 28)); simpa [vers] using this
  have b0 : Below w.heap.size w W := by rw [hW]; exact bal (bal (Below.refl _ _) _) _
  rw [← hW]
  clear hW hmk
  have T0 := Lib.hid t0; clear t0
  have M0 := Lib.hid m0; clear m0
  go_loopw [27] (fun i wr => ∃ k : Nat, k ≤ xs.length ∧ i = .int .i64 k ∧ Hid (PreOK xs next k) ∧ Hid (Two wr w.heap.size (.slice A xs.length c) (.int .i64 next)) ∧ Hid (IntSet wr (w.heap.size + 1) (vers xs k)) ∧ Below w.heap.size w wr) (fun i _ => xs.length - (intOf i).toNat)
  case atStart => exact ⟨0, by omega, rfl, Lib.hid ⟨fun i _ h => by omega, fun i _ h => by omega, fun i j _ _ h => by omega⟩, T0, M0, b0⟩
  case round =>
    clear T0 M0 b0
    obtain ⟨k, hk, rfl, Hp, HT, HM, hb⟩ := hrel
    by_cases hlt : k < xs.length
    · obtain ⟨b, off, rfl, hbB, p0, p1, p2⟩ := ObjsAt.obj (Sl.below H.out hb hB) hlt
      have hfit : xs[k].fit := Hf.out _ (List.getElem_mem hlt)
      have Hfit := Lib.hid hfit; clear hfit
      obtain ⟨t10, t11⟩ := HT.out
      have hms : w.heap.size + 1 < wr.heap.size := HM.out.lt
      have hws : w.heap.size < wr.heap.size := by omega
      go_wp2_with fail
      obtain ⟨Wc, hWc⟩ : ∃ Wc, Wc = wr.alloc (.cells #[.string xs[k].key, .int .i64 xs[k].ver, .string xs[k].data] 69) := ⟨_, rfl⟩
      have o0 : Wc.cell? ⟨wr.heap.size, 0, none⟩ = some (.string xs[k].key) := by rw [hWc]; simp
      have o1 : Wc.cell? ⟨wr.heap.size, 1, none⟩ = some (.int .i64 xs[k].ver) := by rw [hWc]; simp
      have bc : Below wr.heap.size wr Wc := by rw [hWc]; exact bal (Below.refl _ _) _
      have sc : wr.heap.size < Wc.heap.size := by rw [hWc]; simp
      rw [← hWc]
      clear hWc p0 p1 p2 t10 t11
      have O0 := Lib.hid o0; clear o0
      have O1 := Lib.hid o1; clear o1
      refine (objRight_any xs[k] next Wc Hfit.out.1).mono ?_
      rintro e w2 ⟨bb, hbb, rfl, hb2⟩
      have b2 : Below wr.heap.size wr w2 := bnext bc hb2
      have bw : Below w.heap.size w w2 := bnext hb b2
      have z2 : wr.heap.size < w2.heap.size := by have := hb2.size; omega
      have q0 : w2.cell? ⟨wr.heap.size, 0, none⟩ = some (.string xs[k].key) := (hb2.cell sc).trans O0.out
      have q1 : w2.cell? ⟨wr.heap.size, 1, none⟩ = some (.int .i64 xs[k].ver) := (hb2.cell sc).trans O1.out
      obtain ⟨t10, t11⟩ := HT.out.below b2 hws
      have M2 := Lib.hid (HM.out.below b2)
      have S2 := Lib.hid (Sl.below H.out bw hB)
      have Hbb := Lib.hid hbb; clear hbb
      clear bc hb2 O0 O1 b2 HT HM
      cases bb
      · have hn : ¬ StoreP xs next := not_store_obj hlt (fun h => by have := Hbb.out.2 h; cases this)
        have Hn := Lib.hid hn; clear hn
        go_wp2
        go_ret
        exact ⟨false, by simp [Hn.out], rfl, bw⟩
      · have hok : ObjOK next xs[k] := Hbb.out.1 rfl
        have Hok := Lib.hid hok; clear hok Hbb
        have hlk := M2.out.look (wf_ver Hfit.out)
        cases hct : (vers xs k).contains xs[k].ver
        · have Hct := Lib.hid hct
          rw [hct] at hlk
          clear hct
          by_cases h0 : 0 < k
          · obtain ⟨j, rfl⟩ : ∃ j, k = j + 1 := ⟨k - 1, by omega⟩
            have hk1 : j < xs.length := by omega
            obtain ⟨b', off', e, _, r0, _, _⟩ := ObjsAt.obj S2.out hk1
            injection e with e
            injection e with e1 e2
            subst e1 e2
            clear h0
            have wr1 : IntKind.i64.wrap ((j : Int) + 1 - 1) = (j : Int) := by rw [IntKind.wrap_i64]; omega
            have j0 : (0 : Int) ≤ (j : Int) := by omega
            have j1 : (j : Int) < (xs.length : Int) := by omega
            cases hbl : bl xs[j].key xs[j + 1].key
            · have hn : ¬ StoreP xs next := not_store_key (k := j + 1) hlt (by omega) hbl
              have Hn := Lib.hid hn; clear hn
              unfold bl at hbl
              go_wp2_with fail
              go_quiet (fail)
              go_wp2
              go_ret
              exact ⟨false, by simp [Hn.out], rfl, bdrewN bw _⟩
            · have Hbl := Lib.hid hbl
              unfold bl at hbl
              go_wp2_with fail
              go_quiet (fail)
              clear wr1 j0 j1 hbl r0
              obtain ⟨D, hown, hat⟩ := M2.out
              have Hat := Lib.hid hat; clear hat
              have hm := hown.isMap
              have Hm := Lib.hid hm; clear hm
              have Hown := Lib.hid hown; clear hown
              have hsz : (vers xs (j + 1)).length < maxLen := by simp [vers, maxLen] <;> omega
              have Hsz := Lib.hid hsz; clear hsz
              go_wp2_with (at_mapUpdate; refine wpList_mapUpdate_own _ rfl _ _ _ 92 rfl 3 4 intKeyed Tryz.underlying92 _ (w.heap.size + 1) _ D rfl (by exact Hown.out) Hsz.out _ _ _ rfl rfl (keyOf_int_mk Tryz.underlying3 (wf_ver Hfit.out)) _ [] (plainElem_bool Tryz.underlying4 true) ?_; intro w3 hown3 hg3)
              have hp : PreOK xs next (j + 1 + 1) := Hp.out.succ hlt Hok.out Hct.out (fun _ => Hbl.out)
              have Hp2 := Lib.hid hp; clear hp
              have hi : IntSet w3 (w.heap.size + 1) (vers xs (j + 1 + 1)) := by rw [vers_succ xs _ hlt]; exact IntSet.after (w := w2) rfl Hat.out Hm.out hown3
              have Hi := Lib.hid hi; clear hi hown3
              have hg3' : w2.grownBy w3 (some (w.heap.size + 1)) := ⟨hg3.os, hg3.tape, hg3.output, hg3.size, hg3.block⟩
              have ht3 : Two w3 w.heap.size (.slice (some ⟨b, off, none⟩) xs.length c) (.int .i64 next) := Two.grown ⟨t10, t11⟩ hg3' (by omega) (fun g e => by injection e with e; omega)
              have Ht3 := Lib.hid ht3; clear ht3
              have hb3 : Below w.heap.size w w3 := bw.trans (below_of_grown hg3' (by omega) (fun g e => by injection e with e; omega))
              go_roundw
              case rel => exact ⟨j + 1 + 1, by omega, by go_num, Hp2, Ht3, Hi, hb3⟩
              case measure => simp [intOf]; omega
          · obtain rfl : k = 0 := by omega
            clear h0
            have d0 : decide (0 < ((0 : Nat) : Int)) = false := by simp
            go_wp2_with fail
            go_quiet (fail)
            obtain ⟨D, hown, hat⟩ := M2.out
            have Hat := Lib.hid hat; clear hat
            have hm := hown.isMap
            have Hm := Lib.hid hm; clear hm
            have Hown := Lib.hid hown; clear hown
            have hsz : (vers xs (0)).length < maxLen := by simp [vers, maxLen] <;> omega
            have Hsz := Lib.hid hsz; clear hsz
            go_wp2_with (at_mapUpdate; refine wpList_mapUpdate_own _ rfl _ _ _ 92 rfl 3 4 intKeyed Tryz.underlying92 _ (w.heap.size + 1) _ D rfl (by exact Hown.out) Hsz.out _ _ _ rfl rfl (keyOf_int_mk Tryz.underlying3 (wf_ver Hfit.out)) _ [] (plainElem_bool Tryz.underlying4 true) ?_; intro w3 hown3 hg3)
            have hp : PreOK xs next (0 + 1) := Hp.out.succ hlt Hok.out Hct.out (fun h => absurd h (by omega))
            have Hp2 := Lib.hid hp; clear hp
            have hi : IntSet w3 (w.heap.size + 1) (vers xs (0 + 1)) := by rw [vers_succ xs _ hlt]; exact IntSet.after (w := w2) rfl Hat.out Hm.out hown3
            have Hi := Lib.hid hi; clear hi hown3
            have hg3' : w2.grownBy w3 (some (w.heap.size + 1)) := ⟨hg3.os, hg3.tape, hg3.output, hg3.size, hg3.block⟩
            have ht3 : Two w3 w.heap.size (.slice (some ⟨b, off, none⟩) xs.length c) (.int .i64 next) := Two.grown ⟨t10, t11⟩ hg3' (by omega) (fun g e => by injection e with e; omega)
            have Ht3 := Lib.hid ht3; clear ht3
            have hb3 : Below w.heap.size w w3 := bw.trans (below_of_grown hg3' (by omega) (fun g e => by injection e with e; omega))
            go_roundw
            case rel => exact ⟨0 + 1, by omega, by go_num, Hp2, Ht3, Hi, hb3⟩
            case measure => simp [intOf]; omega
        · have hn : ¬ StoreP xs next := not_store_ver hlt hct
          have Hn := Lib.hid hn; clear hn
          rw [hct] at hlk
          clear hct
          go_wp2
          go_ret
          exact ⟨false, by simp [Hn.out], rfl, bw⟩
    · have hyes : StoreP xs next := ⟨n1, n2, hl, by obtain rfl : k = xs.length := by omega
                                                    exact Hp.out⟩
      have Hy := Lib.hid hyes; clear hyes
      go_wp2
      go_ret
      exact ⟨true, by simp [Hy.out], rfl, hb⟩

theorem right_any (A : Option Addr) (c : Nat) (next : Int) (xs : List GObj) (B : Nat) (w : World) (h : ObjsAt w B A xs) (hB : B ≤ w.heap.size) (hf : ∀ o ∈ xs, o.fit) (hl : xs.length ≤ 1048576) :
    Calls Tryz.prog 43 #[.agg #[.slice A xs.length c, .int .i64 next]] w (IsBB (StoreP xs next) w) := by
  by_cases n1 : 1 ≤ next
  · by_cases n2 : next ≤ 1000000000
    · by_cases n3 : xs.length ≤ 300
      · exact right_in A c next xs B w h hB hf n1 n2 n3
      · have hn : ¬ StoreP xs next := fun h => n3 h.2.2.1
        have Hn := Lib.hid hn; clear hn h hf
        have d1 : decide (next < 1) = false := by simp; omega
        have d2 : decide (1000000000 < next) = false := by simp; omega
        have d3 : decide (300 < (xs.length : Int)) = true := by simp; omega
        go_enter Tryz.func43, Tryz.ntmps43
        go_wp2
        go_ret
        exact ⟨false, by simp [Hn.out], rfl, bal (Below.refl _ _) _⟩
    · have hn : ¬ StoreP xs next := fun h => n2 h.2.1
      have Hn := Lib.hid hn; clear hn h hf
      have d1 : decide (next < 1) = false := by simp; omega
      have d2 : decide (1000000000 < next) = true := by simp; omega
      go_enter Tryz.func43, Tryz.ntmps43
      go_wp2
      go_ret
      exact ⟨false, by simp [Hn.out], rfl, bal (Below.refl _ _) _⟩
  · have hn : ¬ StoreP xs next := fun h => n1 h.1
    have Hn := Lib.hid hn; clear hn h hf
    have d1 : decide (next < 1) = true := by simp; omega
    go_enter Tryz.func43, Tryz.ntmps43
    go_wp2
    go_ret
    exact ⟨false, by simp [Hn.out], rfl, bal (Below.refl _ _) _⟩

end Go.Proofs.YtkpaocejpjhkpaaGreatDoor
