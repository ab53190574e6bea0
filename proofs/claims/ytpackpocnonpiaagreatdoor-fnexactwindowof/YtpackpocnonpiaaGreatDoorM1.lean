/-
  Several texts as one: contracts that the law leans on; each part says what it proves and its conditions.
-/
import Derived.Test.YtpackpocnonpiaaGreatDoorSpecRd
import Derived.Test.YtpackpocnonpiaaGreatDoorBktTxt
import Derived.Test.YtpackpocnonpiaaGreatDoorSpecRdS
import Derived.Test.YtpackpocnonpiaaGreatDoorBytes
import Derived.Outline
import Derived.Lib.Hide
import Derived.Test.YtpackpocnonpiaaGreatDoorMem
import Derived.Deep.QuietTactic
import Derived.BigQuiet
import Derived.StillTailTactics
import Derived.Deep.Draws
import Derived.Laws.OwnMore
import Derived.Laws.BytesString
import Derived.Laws.IdiomStrings
import Derived.Deep.RegionHeld3

/- Contracts of the model's l03ToBuckets and ReadBuckets: just the text of right buckets is read. Conditions: a text's length. -/
namespace Go.Proofs.YtpackpocnonpiaaGreatDoor
open Go.ChangeShapes Go.WideShapes Go.ChangeAt Go.RowKit
set_option linter.unusedVariables false
set_option linter.unusedSimpArgs false

/-- a text is that of these buckets -/
def BktOf (t : ByteArray) (xs : List GBkt) : Prop := (xs = [] ∧ t.size = 0) ∨ (xs ≠ [] ∧ Pieces t 32 (xs.map bktT))

def BktRead (t : ByteArray) (xs : List GBkt) : Prop := BktP xs ∧ BktOf t xs

def NoBkt (t : ByteArray) : Prop := ∀ xs, ¬ BktRead t xs

theorem aggT_nums (a : GAgg) : NumsOf (aggT a) 44 a.nums := by
  refine ⟨[numT a.cnt, numT a.sum, numT a.mn, numT a.mx, numT a.fst], numT a.lst, rfl, ?_⟩
  simp [aggT, joinT, comma, GAgg.nums, Lib.join, flatC]

theorem nums_text {q q' : ByteArray} {c : UInt8} {ns : List Int} (h : NumsOf q c ns) (k : NumsOf q' c ns) : q = q' := by
  obtain ⟨ps, last, e, h⟩ := h
  obtain ⟨ps', last', e', k⟩ := k
  rw [e] at e'
  obtain ⟨rfl, e2⟩ := List.append_inj' e' rfl
  simp at e2
  subst e2
  exact ba_eq (h.trans k.symm)

theorem agg_bytes (a : GAgg) (c : UInt8) (hc : NoNum c) (h44 : c ≠ 44) : c ∉ (aggT a).data.toList := by
  obtain ⟨ps, last, e, h⟩ := aggT_nums a
  rw [h]
  intro hm
  have hn : ∀ p ∈ ps ++ [last], c ∉ p.data.toList := by
    rw [← e]
    intro p hp
    obtain ⟨n, _, rfl⟩ := List.mem_map.1 hp
    exact num_nocomma n c hc
  rcases List.mem_append.1 hm with hm | hm
  · unfold flatC at hm
    obtain ⟨p, hp, hm⟩ := List.mem_flatMap.1 hm
    rcases List.mem_append.1 hm with hm | hm
    · exact hn p (by simp [hp]) hm
    · simp at hm; exact h44 hm
  · exact hn last (by simp) hm

theorem colon_no : NoNum 58 := Or.inr (Or.inl (by decide))

theorem bkt_cut (s : GBkt) : CutOf (bktT s) 58 [numT s.beg] (aggT s.agg) :=
  ⟨by simp [bktT, flatC, ByteArray.data_append], fun p hp => by simp at hp; subst hp; exact num_nocomma _ 58 colon_no, agg_bytes _ 58 colon_no (by decide)⟩

theorem bktT_of {x p q : ByteArray} {n : Int} {a : GAgg} (h : CutOf x 58 [p] q) (hp : p = numT n) (hq : NumsOf q 44 a.nums) : x = bktT ⟨n, a⟩ := by
  have e := nums_text hq (aggT_nums a)
  subst hp e
  apply ba_eq
  rw [h.1, (bkt_cut ⟨n, a⟩).1]

theorem bktT_blank (s : GBkt) : (32 : UInt8) ∉ (bktT s).data.toList := by
  intro h
  simp only [bktT, ByteArray.data_append, Array.toList_append, List.mem_append] at h
  rcases h with (h | h) | h
  · exact num_nocomma s.beg 32 (Or.inl (by decide)) h
  · simp at h
  · exact agg_bytes s.agg 32 (Or.inl (by decide)) (by decide) h

theorem bkts_cut {t : ByteArray} {xs : List GBkt} {ps : List ByteArray} {last : ByteArray} (h : Pieces t 32 (xs.map bktT)) (k : CutOf t 32 ps last) : ps ++ [last] = xs.map bktT := by
  obtain ⟨qs, b, e, h⟩ := h
  have hn : ∀ p ∈ qs ++ [b], (32 : UInt8) ∉ p.data.toList := by
    rw [← e]
    intro p hp
    obtain ⟨s, _, rfl⟩ := List.mem_map.1 hp
    exact bktT_blank s
  obtain ⟨e1, e2⟩ := CutOf.one (t := t) k ⟨h, fun p hp => hn p (by simp [hp]), hn b (by simp)⟩
  rw [e1, e2, e]

/-- each bucket's numbers are within a number's text -/
theorem bktP_small {xs : List GBkt} (h : BktP xs) : ∀ s ∈ xs, Small s.beg ∧ AggP s.agg := by
  intro s hs
  obtain ⟨i, hi, rfl⟩ := List.mem_iff_getElem.1 hs
  have h1 := (h.2 i hi hi).1
  have h2 := (h.2 i hi hi).2.1
  refine ⟨?_, h2⟩
  simp [inB] at h1
  unfold Small
  omega

theorem bkt_one (s : GBkt) : ∀ u ∈ GBkt.vals s, u.oneCell' = true := by
  intro u hu
  simp [GBkt.vals] at hu
  rcases hu with rfl | rfl | rfl | rfl | rfl | rfl | rfl <;> rfl

theorem new_bkt (w : World) (s : GBkt) (e : TypeId) : Sl GBkt.vals 7 (w.alloc (.cells #[.int .i64 s.beg, .int .i64 s.agg.cnt, .int .i64 s.agg.sum, .int .i64 s.agg.mn, .int .i64 s.agg.mx, .int .i64 s.agg.fst, .int .i64 s.agg.lst] e)) (w.heap.size + 1) (some ⟨w.heap.size, 0, none⟩) [s] := by
  intro _
  refine ⟨w.heap.size, 0, rfl, by omega, fun k hk j v hv => ?_⟩
  obtain rfl : k = 0 := by simpa using hk
  rw [World.cell?_alloc_new]
  match j, hv with
  | 0, hv => simpa [GBkt.vals] using hv
  | 1, hv => simpa [GBkt.vals] using hv
  | 2, hv => simpa [GBkt.vals] using hv
  | 3, hv => simpa [GBkt.vals] using hv
  | 4, hv => simpa [GBkt.vals] using hv
  | 5, hv => simpa [GBkt.vals] using hv
  | 6, hv => simpa [GBkt.vals] using hv
  | j + 7, hv => simp [GBkt.vals] at hv

/-- a bucket's numbers are ints -/
def FitB (s : GBkt) : Prop := FitI s.beg ∧ ∀ n ∈ s.agg.nums, FitI n

theorem bkt_inj : ∀ {xs ys : List GBkt}, (∀ s ∈ xs, FitB s) → (∀ s ∈ ys, FitB s) → xs.map bktT = ys.map bktT → xs = ys
  | [], [], _, _, _ => rfl
  | [], y :: ys, _, _, e => by simp at e
  | x :: xs, [], _, _, e => by simp at e
  | x :: xs, y :: ys, hx, hy, e => by
    simp at e
    have h1 := bkt_cut x
    rw [e.1] at h1
    obtain ⟨g1, g2⟩ := CutOf.one (t := bktT y) h1 (bkt_cut y)
    simp at g1
    have fx := hx x (by simp)
    have fy := hy y (by simp)
    have e1 := num_inj fx.1.1 fx.1.2 fy.1.1 fy.1.2 g1
    have e2 := nums_one comma_no (aggT_nums x.agg) (by rw [g2]; exact aggT_nums y.agg) fx.2 fy.2
    have e3 := bkt_inj (xs := xs) (ys := ys) (fun s hs => hx s (by simp [hs])) (fun s hs => hy s (by simp [hs])) (by simpa using e.2)
    obtain ⟨x1, ⟨x2, x3, x4, x5, x6, x7⟩⟩ := x
    obtain ⟨y1, ⟨y2, y3, y4, y5, y6, y7⟩⟩ := y
    simp [GAgg.nums] at e1 e2
    obtain ⟨rfl, rfl, rfl, rfl, rfl, rfl⟩ := e2
    rw [e1, e3]

set_option maxRecDepth 100000 in
set_option maxHeartbeats 1000000 in
theorem toBuckets_any (t : ByteArray) (w : World) (ht : t.size ≤ 1000000) : Calls Tryz.prog 83 #[.string t] w fun e w' => ∃ A k xs b, e = .returned (.tuple #[.slice A xs.length k, .bool b]) ∧ ((b = true ∧ BktRead t xs) ∨ (b = false ∧ xs = [] ∧ NoBkt t)) ∧ OwnSl GBkt.vals 7 203 w.heap.size w' (.slice A xs.length k) xs ∧ Below w.heap.size w w' := by
  by_cases hz : t.size = 0
  · have he : t.toList.isEmpty = true := by rw [ByteArray.toList_eq]; simp; exact Array.eq_empty_of_size_eq_zero hz
    have HR := Lib.hid (show BktRead t [] from ⟨⟨by simp, fun j h => by simp at h⟩, Or.inl ⟨rfl, hz⟩⟩)
    have HO := Lib.hid (own_empty GBkt.vals 7 203 w)
    have hb := bal (Below.refl _ w) (.cells #[] 203)
    go_enter Tryz.func83, Tryz.ntmps83
    go_wp2
    exact bodyPost_ret (v := .tuple #[.slice (some ⟨w.heap.size, 0, none⟩) 0 0, .bool true]) (by simp [results, Tryz.results83, go_sem]) rfl ⟨_, _, [], true, rfl, Or.inl ⟨rfl, HR.out⟩, HO.out, hb⟩
  have he : t.toList.isEmpty = false := by
    rw [ByteArray.toList_eq]
    cases h : t.data.toList.isEmpty
    · rfl
    · exact absurd (by simp at h; rw [ByteArray.size, h]; rfl) hz
  go_enter Tryz.func83, Tryz.ntmps83
  go_wp2_with fail
  have O0 := Lib.hid (own_empty GBkt.vals 7 203 w)
  have hb0 : Below w.heap.size w (w.alloc (.cells #[] 203)) := bal (Below.refl _ _) _
  have hs0 : (w.alloc (.cells #[] 203)).heap.size = w.heap.size + 1 := by simp
  generalize w.alloc (.cells #[] 203) = w0 at *
  generalize hx0 : w.heap.size = x0 at *
  have Hx0 := Lib.hid hx0; clear hx0
  refine (l00Cut_any t 32 w0 (by omega)).mono ?_
  rintro e w1 ⟨A1, k1, ps, last, rfl, hO, hC, hb1⟩
  obtain ⟨ws, hws⟩ : ∃ ws, ws = ps ++ [last] := ⟨_, rfl⟩
  have hwl : ps.length + 1 = ws.length := by rw [hws]; simp
  obtain ⟨hz1, hz2⟩ := cut_len hC
  rw [← hws] at hz1
  have hwm : ws.length ≤ 1000001 := by omega
  have hw0 : ws ≠ [] := by rw [hws]; simp
  rw [← hws, hwl] at hO
  have HF := Lib.hid (show (∀ xs, BktRead t xs → ws = xs.map bktT) ∧ Pieces t 32 ws from ⟨fun xs h => by
    rcases h.2 with ⟨_, h0⟩ | ⟨_, h⟩
    · exact absurd h0 hz
    · rw [hws]; exact bkts_cut h hC, by rw [hws]; exact hC.pieces⟩)
  have HZ := Lib.hid hz1; clear hz1
  obtain ⟨hsl, _, hbk, _⟩ := OwnSl.sl hO (fun x => rfl)
  have Hsl := Lib.hid hsl
  have HBk := Lib.hid hbk; clear hsl hO hC hz2 hbk
  have O1 := Lib.hid (O0.out.below hb1)
  have hs1 : w0.heap.size ≤ w1.heap.size := hb1.size
  have hbw : Below x0 w w1 := hb0.trans (hb1.mono (by omega))
  have HW0 := Lib.hid hw0
  rw [hwl]
  clear hws hwl O0 hb1 hb0 hw0 he
  go_wp2_with fail
  go_loopw [4, 6] (fun o i wr => ∃ (A : Option Addr) (k j : Nat) (ss : List GBkt), o = .slice A ss.length k ∧ i = .int .i64 j ∧ j ≤ ws.length ∧ Hid (ss.length = j) ∧ Hid (OwnSl GBkt.vals 7 203 x0 wr (.slice A ss.length k) ss) ∧ Hid (ws.take j = ss.map bktT ∧ ∀ s ∈ ss, FitB s) ∧ Hid (∀ g, blk A = some g → g = x0 ∨ w1.heap.size ≤ g) ∧ Hid (w1.grownBy wr (some x0))) (fun _ i _ => ws.length - (intOf i).toNat)
  case atStart => exact ⟨_, _, 0, [], rfl, rfl, by omega, Lib.hid rfl, O1, Lib.hid ⟨rfl, by simp⟩, Lib.hid (fun g e => by simp [blk] at e; exact Or.inl e.symm), Lib.hid (grown_of_below (Below.refl _ _) _)⟩
  case round =>
    clear O1
    obtain ⟨A, k, j, ss, rfl, rfl, hj, HL, HO, HT, HK, HG⟩ := hrel
    have hsm : ss.length ≤ 1000001 := by have := HL.out; omega
    have hBr : Below x0 w wr := hbw.trans (below_of_grown HG.out (by omega) (fun g e => by injection e with e; omega))
    by_cases hlt : j < ws.length
    · obtain ⟨b, o, rfl, hbb, hcl⟩ := Sl.at_ Hsl.out hlt
      have hbx : b ≠ x0 := by have := (HBk.out b rfl).1; omega
      have p0 : wr.cell? ⟨b, o + j, none⟩ = some (.string ws[j]) := by
        have := hcl 0 (.string ws[j]) rfl
        simp only [Nat.mul_one, Nat.add_zero] at this
        exact (World.cell?_of_block (a := ⟨b, o + j, none⟩) (HG.out.block b hbb (fun e => hbx (by injection e)))).trans this
      have hxz := HZ.out ws[j] (List.getElem_mem hlt)
      have hrd := l00Cut_any ws[j] 58 wr (by omega)
      have Hrd := Lib.hid hrd; clear hrd
      have HX := Lib.hid (show ws.take (j + 1) = ws.take j ++ [ws[j]] from List.take_succ_eq_append_getElem hlt)
      have HX2 := Lib.hid (show ws[j] ∈ ws from List.getElem_mem hlt)
      have HXZ := Lib.hid hxz
      clear hcl hxz
      generalize ws[j] = X at *
      go_wp2_with fail
      refine Hrd.out.mono ?_
      rintro e w3 ⟨A3, k3, ps3, last3, rfl, hO3, hC3, hb3⟩
      clear Hrd
      have HOb := Lib.hid (HO.out.below hb3)
      have HG3 := Lib.hid (grown_trans HG.out (grown_of_below hb3 (some x0)))
      have hs3 : wr.heap.size ≤ w3.heap.size := hb3.size
      have hs3x : x0 ≤ w3.heap.size := by have := HG.out.size; omega
      have hB3 : Below x0 w w3 := hBr.trans (hb3.mono (by have := HG.out.size; omega))
      have HNo := Lib.hid (show (∀ s, Small s.beg → AggP s.agg → X ≠ bktT s) → NoBkt t from fun hno xs h => by
        have hx := HX2.out
        rw [HF.out.1 xs h] at hx
        obtain ⟨s, hs, e⟩ := List.mem_map.1 hx
        have sm := bktP_small h.1 s hs
        exact hno s sm.1 sm.2 e.symm)
      have HNe := Lib.hid (show ∀ w4, Below x0 w w4 → x0 ≤ w4.heap.size → OwnSl GBkt.vals 7 203 x0 (w4.alloc (.cells #[] 203)) (.slice (some ⟨w4.heap.size, 0, none⟩) 0 0) [] ∧ Below x0 w (w4.alloc (.cells #[] 203)) from fun w4 hb4 sz => by
        have OE := own_empty GBkt.vals 7 203 w4
        exact ⟨⟨OE.1, by
          rcases OE.2 with h | ⟨g, cap, cur, e, hb, r⟩
          · exact Or.inl h
          · exact Or.inr ⟨g, cap, cur, e, Nat.le_trans sz hb, r⟩⟩, hb4.alloc sz _⟩)
      clear hb3 HO hBr p0
      match ps3 with
      | [] =>
        have HN := Lib.hid (HNo.out (fun s _ _ e => by
          rw [e] at hC3
          have := (CutOf.one (t := X) hC3 (bkt_cut s)).1
          cases this))
        obtain ⟨h1, h2⟩ := HNe.out w3 hB3 hs3x
        have H1 := Lib.hid h1; have H2 := Lib.hid h2
        clear hO3 hC3 HNo HNe h1 h2 HX HX2 HT HOb HG3
        go_wp2
        exact bodyPost_ret (v := .tuple #[.slice (some ⟨w3.heap.size, 0, none⟩) 0 0, .bool false]) (by simp [results, Tryz.results83, go_sem]) rfl ⟨_, _, [], false, rfl, Or.inr ⟨rfl, rfl, HN.out⟩, by rw [Hx0.out]; exact H1.out, by rw [Hx0.out]; exact H2.out⟩
      | p :: q :: r =>
        have HN := Lib.hid (HNo.out (fun s _ _ e => by
          rw [e] at hC3
          have := (CutOf.one (t := X) hC3 (bkt_cut s)).1
          simp at this))
        have d0 : (((p :: q :: r).length + 1 : Nat) : Int) ≠ 2 := by simp; omega
        have d1 : ((((p :: q :: r).length + 1 : Nat) : Int) != 2) = true := by simpa using d0
        generalize (p :: q :: r).length + 1 = N at *
        obtain ⟨h1, h2⟩ := HNe.out w3 hB3 hs3x
        have H1 := Lib.hid h1; have H2 := Lib.hid h2
        clear hO3 hC3 HNo HNe h1 h2 HX HX2 HT HOb HG3 d0
        go_wp2
        exact bodyPost_ret (v := .tuple #[.slice (some ⟨w3.heap.size, 0, none⟩) 0 0, .bool false]) (by simp [results, Tryz.results83, go_sem]) rfl ⟨_, _, [], false, rfl, Or.inr ⟨rfl, rfl, HN.out⟩, by rw [Hx0.out]; exact H1.out, by rw [Hx0.out]; exact H2.out⟩
      | [p] =>
        obtain ⟨hsl3, _, hbk3, _⟩ := OwnSl.sl (xs := [p] ++ [last3]) hO3 (fun x => rfl)
        obtain ⟨b3, o3, rfl, hbb3, hc0⟩ := Sl.at_ hsl3 (k := 0) (by simp)
        obtain ⟨b4, o4, e4, _, hc1⟩ := Sl.at_ hsl3 (k := 1) (by simp)
        injection e4 with e4
        injection e4 with e4 e5
        subst e4 e5
        have q0 : w3.cell? ⟨b3, o3, none⟩ = some (.string p) := by simpa using hc0 0 (.string p) rfl
        have q1 : w3.cell? ⟨b3, o3 + 1, none⟩ = some (.string last3) := by simpa using hc1 0 (.string last3) rfl
        obtain ⟨hzp, _⟩ := cut_len hC3
        have hp1 := hzp p (by simp)
        have hp2 := hzp last3 (by simp)
        have hXZ := HXZ.out
        have HC3 := Lib.hid hC3
        clear hsl3 hbk3 hc0 hc1 hO3 hC3 hzp
        simp only [List.length_cons, List.length_nil] at *
        go_wp2_with fail
        refine (l02Number_any p w3 (by omega)).mono ?_
        rintro e w4 ⟨n, ok, rfl, hn, hb4⟩
        have HNn := Lib.hid hn; clear hn
        have q1' : w4.cell? ⟨b3, o3 + 1, none⟩ = some (.string last3) := (hb4.cell (p := ⟨b3, o3 + 1, none⟩) hbb3).trans q1
        have hB4 : Below x0 w w4 := hB3.trans (hb4.mono hs3x)
        have hs4 := hb4.size
        have HOb4 := Lib.hid (HOb.out.below hb4)
        have HG4 := Lib.hid (grown_trans HG3.out (grown_of_below hb4 (some x0)))
        clear q0 q1 hB3 hb4 HOb HG3
        go_wp2_with fail
        refine (l02Read_any last3 w4 (by omega)).mono ?_
        rintro e w5 ⟨a, fine, rfl, ha, hb5⟩
        have HA := Lib.hid ha; clear ha
        have hB5 : Below x0 w w5 := hB4.trans (hb5.mono (by omega))
        have hs5 := hb5.size
        have HOb5 := Lib.hid (HOb4.out.below hb5)
        have HG5 := Lib.hid (grown_trans HG4.out (grown_of_below hb5 (some x0)))
        clear q1' hB4 hb5 HOb4 HG4
        cases ok
        · have HN := Lib.hid (HNo.out (fun s sb _ e => by
            have hc := HC3.out
            rw [e] at hc
            have e1 := (CutOf.one (t := X) hc (bkt_cut s)).1
            simp at e1
            rcases HNn.out with ⟨h, _⟩ | ⟨_, h⟩
            · cases h
            · exact h s.beg sb e1))
          obtain ⟨h1, h2⟩ := HNe.out (w5.alloc (.cells #[.int .i64 a.cnt, .int .i64 a.sum, .int .i64 a.mn, .int .i64 a.mx, .int .i64 a.fst, .int .i64 a.lst] 26)) (hB5.alloc (by omega) _) (by simp; omega)
          have hz6 : (w5.alloc (.cells #[.int .i64 a.cnt, .int .i64 a.sum, .int .i64 a.mn, .int .i64 a.mx, .int .i64 a.fst, .int .i64 a.lst] 26)).heap.size = w5.heap.size + 1 := by simp
          rw [hz6] at h1
          have H1 := Lib.hid h1; have H2 := Lib.hid h2
          clear HNo HNe h1 h2 HX HX2 HT HOb5 HG5 HNn HA hz6
          go_wp2
          exact bodyPost_ret (v := .tuple #[.slice (some ⟨w5.heap.size + 1, 0, none⟩) 0 0, .bool false]) (by simp [results, Tryz.results83, go_sem]) rfl ⟨_, _, [], false, rfl, Or.inr ⟨rfl, rfl, HN.out⟩, by rw [Hx0.out]; exact H1.out, by rw [Hx0.out]; exact H2.out⟩
        cases fine
        · have HN := Lib.hid (HNo.out (fun s _ sa e => by
            have hc := HC3.out
            rw [e] at hc
            have e1 := (CutOf.one (t := X) hc (bkt_cut s)).2
            rcases HA.out with ⟨h, _⟩ | ⟨_, _, h⟩
            · cases h
            · exact h s.agg ⟨sa, by rw [e1]; exact aggT_nums s.agg⟩))
          obtain ⟨h1, h2⟩ := HNe.out (w5.alloc (.cells #[.int .i64 a.cnt, .int .i64 a.sum, .int .i64 a.mn, .int .i64 a.mx, .int .i64 a.fst, .int .i64 a.lst] 26)) (hB5.alloc (by omega) _) (by simp; omega)
          have hz6 : (w5.alloc (.cells #[.int .i64 a.cnt, .int .i64 a.sum, .int .i64 a.mn, .int .i64 a.mx, .int .i64 a.fst, .int .i64 a.lst] 26)).heap.size = w5.heap.size + 1 := by simp
          rw [hz6] at h1
          have H1 := Lib.hid h1; have H2 := Lib.hid h2
          clear HNo HNe h1 h2 HX HX2 HT HOb5 HG5 HNn HA hz6
          go_wp2
          exact bodyPost_ret (v := .tuple #[.slice (some ⟨w5.heap.size + 1, 0, none⟩) 0 0, .bool false]) (by simp [results, Tryz.results83, go_sem]) rfl ⟨_, _, [], false, rfl, Or.inr ⟨rfl, rfl, HN.out⟩, by rw [Hx0.out]; exact H1.out, by rw [Hx0.out]; exact H2.out⟩
        have hpn : p = numT n ∧ FitI n := by
          rcases HNn.out with ⟨_, h1, h2, h3⟩ | ⟨h, _⟩
          · exact ⟨h1, h2, h3⟩
          · cases h
        have hag : AggRead last3 a := by
          rcases HA.out with ⟨_, h⟩ | ⟨h, _⟩
          · exact h
          · cases h
        have HT2 := Lib.hid (show ws.take (j + 1) = (ss ++ [(⟨n, a⟩ : GBkt)]).map bktT ∧ ∀ s ∈ ss ++ [(⟨n, a⟩ : GBkt)], FitB s from by
          refine ⟨by rw [HX.out, HT.out.1, bktT_of HC3.out hpn.1 hag.2]; simp, fun s hs => ?_⟩
          rcases List.mem_append.1 hs with hs | hs
          · exact HT.out.2 s hs
          · simp at hs; subst hs; exact ⟨hpn.2, fun m hm => small_fitI (aggP_small hag.1 m hm)⟩)
        have hz6 : (w5.alloc (.cells #[.int .i64 a.cnt, .int .i64 a.sum, .int .i64 a.mn, .int .i64 a.mx, .int .i64 a.fst, .int .i64 a.lst] 26)).heap.size = w5.heap.size + 1 := by simp
        have hb7 : Below w5.heap.size w5 ((w5.alloc (.cells #[.int .i64 a.cnt, .int .i64 a.sum, .int .i64 a.mn, .int .i64 a.mx, .int .i64 a.fst, .int .i64 a.lst] 26)).alloc (.cells #[.int .i64 n, .int .i64 a.cnt, .int .i64 a.sum, .int .i64 a.mn, .int .i64 a.mx, .int .i64 a.fst, .int .i64 a.lst] 203)) := bal (bal (Below.refl _ w5) _) _
        have HO7 := Lib.hid (HOb5.out.below hb7)
        have hnw := new_bkt (w5.alloc (.cells #[.int .i64 a.cnt, .int .i64 a.sum, .int .i64 a.mn, .int .i64 a.mx, .int .i64 a.fst, .int .i64 a.lst] 26)) ⟨n, a⟩ 203
        rw [hz6] at hnw
        have HNw := Lib.hid hnw
        have HG7 := Lib.hid (grown_trans HG5.out (grown_of_below hb7 (some x0)))
        have hz7 : ((w5.alloc (.cells #[.int .i64 a.cnt, .int .i64 a.sum, .int .i64 a.mn, .int .i64 a.mx, .int .i64 a.fst, .int .i64 a.lst] 26)).alloc (.cells #[.int .i64 n, .int .i64 a.cnt, .int .i64 a.sum, .int .i64 a.mn, .int .i64 a.mx, .int .i64 a.fst, .int .i64 a.lst] 203)).heap.size = w5.heap.size + 2 := by simp
        clear hnw hb7 HNo HNe HX HX2 HT HOb5 HG5 HNn HA hpn hag HC3
        go_wp2_with (at_builtin; refine wpList_append_sl GBkt.vals 7 56 (fun _ => rfl) bkt_one 144 203 _ infoBkt rfl (by omega) Tryz.underlying144 rfl _ _ rfl x0 ss [⟨n, a⟩] (.slice A ss.length k) rfl HO7.out (some ⟨w5.heap.size + 1, 0, none⟩) 1 (w5.heap.size + 1 + 1) rfl HNw.out (by simp [maxLen]; omega) (by simp; omega) (by rw [hz7]; omega) ?_; intro v' w8 hO8 hg8 ho8; obtain ⟨A8, c8, rfl⟩ := hO8.form; have HO8 := Lib.hid hO8; clear hO8; have Hg8 := Lib.hid hg8; clear hg8; have Ho8 := Lib.hid ho8; clear ho8)
        have HK8 := Lib.hid (show ∀ g, blk A8 = some g → g = x0 ∨ w1.heap.size ≤ g from fun g e => by
          have ho8 := Ho8.out
          rw [ownBlock_blk, ownBlock_blk, hz7] at ho8
          rcases ho8 with h | h
          · rw [h] at e; exact HK.out g e
          · rw [h] at e; injection e with e; have := HG.out.size; omega)
        have HG8 := Lib.hid (grown_step HG7.out Hg8.out (fun g e => by rw [ownBlock_blk] at e; exact HK.out g e))
        go_roundw
        case rel => exact ⟨A8, c8, j + 1, ss ++ [⟨n, a⟩], by simp, by go_num, by omega, Lib.hid (by simp [HL.out]), HO8, HT2, HK8, HG8⟩
        case measure => simp [intOf]; omega
    · obtain rfl : j = ws.length := by omega
      have hT : ws = ss.map bktT := by have := HT.out.1; rwa [List.take_length] at this
      have HS0 := Lib.hid (show ss ≠ [] from fun h => HW0.out (by rw [hT, h]; rfl))
      obtain ⟨hsl2, _, _, _⟩ := OwnSl.sl HO.out (fun x => rfl)
      have HSl2 := Lib.hid hsl2; clear hsl2
      have HTT := Lib.hid hT; clear hT
      go_wp2_with fail
      refine (specBucketsOK_any A k ss wr.heap.size wr HSl2.out (Nat.le_refl _) (by omega)).mono ?_
      rintro e w4 ⟨b, hb, rfl, hb4⟩
      have HO4 := Lib.hid (HO.out.below hb4)
      have hB4 : Below x0 w w4 := hBr.trans (hb4.mono (by have := HG.out.size; omega))
      have HN0 := Lib.hid (show ∀ xs, BktRead t xs → BktP ss from fun xs h => by
        have e1 := HF.out.1 xs h
        rw [HTT.out] at e1
        have e2 : ss = xs := bkt_inj HT.out.2 (fun s hs => by have := bktP_small h.1 s hs; exact ⟨small_fitI this.1, fun n hn => small_fitI (aggP_small this.2 n hn)⟩) e1
        rw [e2]
        exact h.1)
      have sz : x0 ≤ w4.heap.size := by have := HG.out.size; have := hb4.size; omega
      have OE := own_empty GBkt.vals 7 203 w4
      have bE := Lib.hid (hB4.alloc sz (.cells #[] 203))
      have OE2 := Lib.hid (show OwnSl GBkt.vals 7 203 x0 (w4.alloc (.cells #[] 203)) (.slice (some ⟨w4.heap.size, 0, none⟩) 0 0) [] from ⟨OE.1, by
        rcases OE.2 with h | ⟨g, cap, cur, e, hb, r⟩
        · exact Or.inl h
        · exact Or.inr ⟨g, cap, cur, e, Nat.le_trans sz hb, r⟩⟩)
      clear hb4 hBr OE HO HSl2
      cases b
      · have HN := Lib.hid (show NoBkt t from fun xs h => Bool.noConfusion (hb.2 (HN0.out xs h)))
        clear hb HN0
        go_wp2
        exact bodyPost_ret (v := .tuple #[.slice (some ⟨w4.heap.size, 0, none⟩) 0 0, .bool false]) (by simp [results, Tryz.results83, go_sem]) rfl ⟨_, _, [], false, rfl, Or.inr ⟨rfl, rfl, HN.out⟩, by rw [Hx0.out]; exact OE2.out, by rw [Hx0.out]; exact bE.out⟩
      · have HR := Lib.hid (show BktRead t ss from ⟨hb.1 rfl, Or.inr ⟨HS0.out, by rw [← HTT.out]; exact HF.out.2⟩⟩)
        clear hb HN0
        go_wp2
        exact bodyPost_ret (v := .tuple #[.slice A ss.length k, .bool true]) (by simp [results, Tryz.results83, go_sem]) rfl ⟨A, k, ss, true, rfl, Or.inl ⟨rfl, HR.out⟩, by rw [Hx0.out]; exact HO4.out, by rw [Hx0.out]; exact hB4⟩

theorem no_pieceB {t : ByteArray} {xs : List GBkt} (h0 : t.size = 0) (hn : xs ≠ []) : ¬ Pieces t 32 (xs.map bktT) := by
  rintro ⟨ps, last, e, h⟩
  have hl : t.data.toList = [] := List.length_eq_zero_iff.1 (by rw [Array.length_toList]; exact h0)
  rw [hl] at h
  have h2 := congrArg List.length h
  rw [List.length_append] at h2
  have h3 : last ∈ xs.map bktT := by rw [e]; simp
  obtain ⟨s, _, rfl⟩ := List.mem_map.1 h3
  have h4 : (bktT s).data.toList.length = (numT s.beg).data.toList.length + 1 + (aggT s.agg).data.toList.length := by simp [bktT, ByteArray.data_append]; omega
  simp at h2
  simp at h4
  omega

/-- what ReadBuckets answers -/
def BktCode (t : ByteArray) (xs : List GBkt) (cd : Int) : Prop := (65536 < t.size ∧ xs = [] ∧ cd = 2) ∨ (t.size ≤ 65536 ∧ BktRead t xs ∧ cd = 0) ∨ (t.size ≤ 65536 ∧ NoBkt t ∧ xs = [] ∧ cd = 3)

theorem bktRead_one {t : ByteArray} {xs ys : List GBkt} (h : BktRead t xs) (k : BktRead t ys) : xs = ys := by
  have fx : ∀ s ∈ xs, FitB s := fun s hs => ⟨small_fitI (bktP_small h.1 s hs).1, fun n hn => small_fitI (aggP_small (bktP_small h.1 s hs).2 n hn)⟩
  have fy : ∀ s ∈ ys, FitB s := fun s hs => ⟨small_fitI (bktP_small k.1 s hs).1, fun n hn => small_fitI (aggP_small (bktP_small k.1 s hs).2 n hn)⟩
  rcases h.2 with ⟨rfl, h0⟩ | ⟨hn, hp⟩ <;> rcases k.2 with ⟨rfl, k0⟩ | ⟨kn, kp⟩
  · rfl
  · exact absurd kp (no_pieceB h0 kn)
  · exact absurd hp (no_pieceB k0 hn)
  · obtain ⟨ps, last, e, hq⟩ := kp
    have hc : ∀ p ∈ ps ++ [last], (32 : UInt8) ∉ p.data.toList := by
      rw [← e]
      intro p hp
      obtain ⟨s, _, rfl⟩ := List.mem_map.1 hp
      exact bktT_blank s
    have := bkts_cut hp ⟨hq, fun p hp => hc p (by simp [hp]), hc last (by simp)⟩
    exact bkt_inj fx fy (by rw [← this, e])

theorem bktCode_one {t : ByteArray} {a b : List GBkt} {c d : Int} (h : BktCode t a c) (k : BktCode t b d) : a = b ∧ c = d := by
  rcases h with ⟨h, rfl, rfl⟩ | ⟨h, h1, rfl⟩ | ⟨h, h1, rfl, rfl⟩ <;> rcases k with ⟨k, rfl, rfl⟩ | ⟨k, k1, rfl⟩ | ⟨k, k1, rfl, rfl⟩
  · exact ⟨rfl, rfl⟩
  · omega
  · omega
  · omega
  · exact ⟨bktRead_one h1 k1, rfl⟩
  · exact absurd h1 (k1 _)
  · omega
  · exact absurd k1 (h1 _)
  · exact ⟨rfl, rfl⟩

end Go.Proofs.YtpackpocnonpiaaGreatDoor

/- Contracts of NameOK of both packages: each answers true just of a name, at every text; the world stays as it was. Conditions: none beside the form's own bound of a text's length. -/
namespace Go.Proofs.YtpackpocnonpiaaGreatDoor
open Go.ChangeShapes Go.WideShapes Go.ChangeAt Go.RowKit
set_option linter.unusedVariables false

/-- a bool is answered that says whether P; the world stays -/
def IsB (P : Prop) (w : World) (e : Ending) (w' : World) : Prop := ∃ b : Bool, (b = true ↔ P) ∧ e = .returned (.bool b) ∧ w = w'

theorem IsB.yes {P : Prop} {w : World} (h : P) : IsB P w (.returned (.bool true)) w := ⟨true, by simp [h], rfl, rfl⟩

theorem IsB.no {P : Prop} {w : World} (h : ¬ P) : IsB P w (.returned (.bool false)) w := ⟨false, by simp [h], rfl, rfl⟩

/-- letter or digit -/
def wordB (n : Int) : Bool := lettB n || digB n

def NameP (s : ByteArray) : Prop := 1 ≤ s.size ∧ s.size ≤ 40 ∧ (∀ h : 0 < s.size, lettB (s[0].toNat : Int) = true) ∧ ∀ k, (h : k < s.size) → 1 ≤ k → wordB (s[k].toNat : Int) = true

theorem lett_not_dig (n : Int) (h : lettB n = true) : digB n = false := by
  simp [lettB, digB] at *; omega

end Go.Proofs.YtpackpocnonpiaaGreatDoor

/- Contracts of KeyOK of both packages: each answers true just of a key, at every text; the world stays as it was. Conditions: none beside the form's own bound of a text's length. -/
namespace Go.Proofs.YtpackpocnonpiaaGreatDoor
open Go.ChangeShapes Go.WideShapes Go.ChangeAt Go.RowKit
set_option linter.unusedVariables false

/-- a byte of a key -/
def keyB (n : Int) : Bool := decide ((97 ≤ n ∧ n ≤ 122) ∨ (48 ≤ n ∧ n ≤ 57) ∨ n = 47 ∨ n = 45)

def KeyP (s : ByteArray) : Prop := 1 ≤ s.size ∧ s.size ≤ 30 ∧ ∀ k, (h : k < s.size) → keyB (s[k].toNat : Int) = true

theorem l01In_any (n a b : Int) (w : World) : Calls Tryz.prog 80 #[.int .i64 n, .int .i64 a, .int .i64 b] w fun e w' => e = .returned (.bool (decide (a ≤ n ∧ n ≤ b))) ∧ w = w' := by
  go_enter Tryz.func80, Tryz.ntmps80
  go_wp2
  all_goals go_ret
  all_goals refine ⟨?_, rfl⟩
  all_goals simp
  all_goals omega

theorem keyB_cases (n : Int) : (keyB n = true ∧ 97 ≤ n ∧ n ≤ 122 ∧ digB n = false) ∨ (keyB n = true ∧ digB n = true ∧ n < 97) ∨ (keyB n = true ∧ n = 47 ∧ digB n = false) ∨ (keyB n = true ∧ n = 45 ∧ digB n = false) ∨
    (keyB n = false ∧ digB n = false ∧ (n < 97 ∨ 122 < n) ∧ (n == 47) = false ∧ (n == 45) = false ∧ (n != 47) = true ∧ (n != 45) = true) := by
  simp [keyB, digB, bne]; omega

theorem key_any (s : ByteArray) (w : World) (hs : s.size ≤ maxLen) :
    Calls Tryz.prog 172 #[.string s] w (IsB (KeyP s) w) := by
  unfold maxLen at hs
  by_cases h1 : 1 ≤ s.size
  · have d1 : decide ((s.size : Int) < 1) = false := by simp; omega
    by_cases h2 : s.size ≤ 30
    · have d2 : decide (30 < (s.size : Int)) = false := by simp; omega
      go_enter Tryz.func172, Tryz.ntmps172
      go_wp2_with fail
      go_loop [15] (fun i => ∃ k : Nat, k ≤ s.size ∧ i = .int .i64 k ∧ Hid (∀ j, (h : j < s.size) → j < k → keyB (s[j].toNat : Int) = true)) (fun i => s.size - (intOf i).toNat)
      case atStart => exact ⟨0, by omega, rfl, Lib.hid (fun j _ h2 => by omega)⟩
      case round =>
        obtain ⟨k, hk, rfl, H⟩ := hrel
        by_cases hlt : k < s.size
        · have hn : keyB (s[k].toNat : Int) = true → ∀ j, (h : j < s.size) → j < k + 1 → keyB (s[j].toNat : Int) = true := fun hq j h b => by
            by_cases e : j = k
            · subst e; exact hq
            · exact H.out j h (by omega)
          have Hn := Lib.hid hn; clear hn
          have hno : keyB (s[k].toNat : Int) = false → ¬ KeyP s := fun hq h => by have := h.2.2 k hlt; simp [hq] at this
          have Hno := Lib.hid hno; clear hno
          rcases keyB_cases (s[k].toNat : Int) with ⟨q, a, b, c⟩ | ⟨q, a, b⟩ | ⟨q, a, b⟩ | ⟨q, a, b⟩ | ⟨q, a, b, c, d, e, f⟩
          all_goals have Q := Lib.hid q
          all_goals clear q
          · go_wp2_with (go_at_call 197; refine (isDigit_any _ _).mono ?_; rintro e w' ⟨rfl, rfl⟩)
            go_round
            case rel => exact ⟨k + 1, by omega, by go_num, Lib.hid (Hn.out Q.out)⟩
            case measure => simp [intOf]; omega
          · go_wp2_with (go_at_call 197; refine (isDigit_any _ _).mono ?_; rintro e w' ⟨rfl, rfl⟩)
            go_round
            case rel => exact ⟨k + 1, by omega, by go_num, Lib.hid (Hn.out Q.out)⟩
            case measure => simp [intOf]; omega
          · go_wp2_with (go_at_call 197; refine (isDigit_any _ _).mono ?_; rintro e w' ⟨rfl, rfl⟩)
            go_round
            case rel => exact ⟨k + 1, by omega, by go_num, Lib.hid (Hn.out Q.out)⟩
            case measure => simp [intOf]; omega
          · go_wp2_with (go_at_call 197; refine (isDigit_any _ _).mono ?_; rintro e w' ⟨rfl, rfl⟩)
            go_round
            case rel => exact ⟨k + 1, by omega, by go_num, Lib.hid (Hn.out Q.out)⟩
            case measure => simp [intOf]; omega
          · rcases b with b | b
            · go_wp2_with (go_at_call 197; refine (isDigit_any _ _).mono ?_; rintro e w' ⟨rfl, rfl⟩)
              go_ret
              exact IsB.no (Hno.out Q.out)
            · have b2 : decide ((s[k].toNat : Int) ≤ 122) = false := by simp; omega
              go_wp2_with (go_at_call 197; refine (isDigit_any _ _).mono ?_; rintro e w' ⟨rfl, rfl⟩)
              go_ret
              exact IsB.no (Hno.out Q.out)
        · have hyes : KeyP s := ⟨h1, h2, fun j h => H.out j h (by omega)⟩
          have Hy := Lib.hid hyes; clear hyes
          go_wp2
          go_ret
          exact IsB.yes Hy.out
    · have d2 : decide (30 < (s.size : Int)) = true := by simp; omega
      have hno : ¬ KeyP s := fun h => by have := h.2.1; omega
      have Hno := Lib.hid hno; clear hno
      go_enter Tryz.func172, Tryz.ntmps172
      go_wp2
      go_ret
      exact IsB.no Hno.out
  · have d1 : decide ((s.size : Int) < 1) = true := by simp; omega
    have hno : ¬ KeyP s := fun h => by have := h.1; omega
    have Hno := Lib.hid hno; clear hno
    go_enter Tryz.func172, Tryz.ntmps172
    go_wp2
    go_ret
    exact IsB.no Hno.out

theorem specKey_any (s : ByteArray) (w : World) (hs : s.size ≤ maxLen) :
    Calls Tryz.prog 108 #[.string s] w (IsB (KeyP s) w) := by
  unfold maxLen at hs
  by_cases h2 : s.size ≤ 65536
  · have d2 : decide (65536 < (s.size : Int)) = false := by simp; omega
    go_enter Tryz.func108, Tryz.ntmps108
    go_wp2_with fail
    go_loop [3] (fun i => ∃ k : Nat, k ≤ s.size ∧ i = .int .i64 k ∧ Hid (∀ j, (h : j < s.size) → j < k → keyB (s[j].toNat : Int) = true)) (fun i => s.size - (intOf i).toNat)
    case atStart => exact ⟨0, by omega, rfl, Lib.hid (fun j _ h2 => by omega)⟩
    case round =>
      obtain ⟨k, hk, rfl, H⟩ := hrel
      by_cases hlt : k < s.size
      · have hn : keyB (s[k].toNat : Int) = true → ∀ j, (h : j < s.size) → j < k + 1 → keyB (s[j].toNat : Int) = true := fun hq j h b => by
          by_cases e : j = k
          · subst e; exact hq
          · exact H.out j h (by omega)
        have Hn := Lib.hid hn; clear hn
        have hno : keyB (s[k].toNat : Int) = false → ¬ KeyP s := fun hq h => by have := h.2.2 k hlt; simp [hq] at this
        have Hno := Lib.hid hno; clear hno
        rcases keyB_cases (s[k].toNat : Int) with ⟨q, a, b, c⟩ | ⟨q, a, b⟩ | ⟨q, a, b⟩ | ⟨q, a, b⟩ | ⟨q, a, b, c, d, e, f⟩
        all_goals have Q := Lib.hid q
        all_goals clear q
        · go_wp2_with (go_at_call 169; refine (specDigit_any _ _).mono ?_; rintro e w' ⟨rfl, rfl⟩)
          go_round
          case rel => exact ⟨k + 1, by omega, by go_num, Lib.hid (Hn.out Q.out)⟩
          case measure => simp [intOf]; omega
        · go_wp2_with (go_at_call 169; refine (specDigit_any _ _).mono ?_; rintro e w' ⟨rfl, rfl⟩)
          go_round
          case rel => exact ⟨k + 1, by omega, by go_num, Lib.hid (Hn.out Q.out)⟩
          case measure => simp [intOf]; omega
        · go_wp2_with (go_at_call 169; refine (specDigit_any _ _).mono ?_; rintro e w' ⟨rfl, rfl⟩)
          go_round
          case rel => exact ⟨k + 1, by omega, by go_num, Lib.hid (Hn.out Q.out)⟩
          case measure => simp [intOf]; omega
        · go_wp2_with (go_at_call 169; refine (specDigit_any _ _).mono ?_; rintro e w' ⟨rfl, rfl⟩)
          go_round
          case rel => exact ⟨k + 1, by omega, by go_num, Lib.hid (Hn.out Q.out)⟩
          case measure => simp [intOf]; omega
        · rcases b with b | b
          all_goals
            go_wp2_with (go_at_call 169; refine (specDigit_any _ _).mono ?_; rintro e w' ⟨rfl, rfl⟩)
            go_ret
            exact IsB.no (Hno.out Q.out)
      · have hyes : (decide (1 ≤ (s.size : Int) ∧ (s.size : Int) ≤ 30) = true ↔ KeyP s) := by
          simp only [decide_eq_true_eq]
          exact ⟨fun ⟨a, b⟩ => ⟨by omega, by omega, fun j h => H.out j h (by omega)⟩, fun h => ⟨by have := h.1; omega, by have := h.2.1; omega⟩⟩
        have Hy := Lib.hid hyes; clear hyes
        go_wp2_with fail
        refine (l01In_any _ _ _ _).mono ?_
        rintro e w' ⟨rfl, rfl⟩
        generalize decide (1 ≤ (s.size : Int) ∧ (s.size : Int) ≤ 30) = bb at *
        go_wp2
        go_ret
        exact ⟨bb, Hy.out, rfl, rfl⟩
  · have d2 : decide (65536 < (s.size : Int)) = true := by simp; omega
    have hno : ¬ KeyP s := fun h => by have := h.2.1; omega
    have Hno := Lib.hid hno; clear hno
    go_enter Tryz.func108, Tryz.ntmps108
    go_wp2
    go_ret
    exact IsB.no Hno.out

end Go.Proofs.YtpackpocnonpiaaGreatDoor

/- Words for slices of objects in memory, and contracts of the laws' own helpers on them (eq, mark, held, sz, to). -/
namespace Go.Proofs.YtpackpocnonpiaaGreatDoor
open Go.ChangeShapes Go.WideShapes Go.ChangeAt Go.RowKit
set_option linter.unusedVariables false

/-- an object as data -/
structure GObj where
  key : ByteArray
  ver : Int
  data : ByteArray
deriving DecidableEq

def GObj.val (o : GObj) : Value := .agg #[.string o.key, .int .i64 o.ver, .string o.data]

def GObj.vals (o : GObj) : List Value := [.string o.key, .int .i64 o.ver, .string o.data]

/-- a slice of objects -/
def ObjsAt (w : World) (B : Nat) (A : Option Addr) (xs : List GObj) : Prop := Sl GObj.vals 3 w B A xs

theorem ObjsAt.obj {w : World} {B : Nat} {A : Option Addr} {xs : List GObj} (h : ObjsAt w B A xs) {k : Nat} (hk : k < xs.length) :
    ∃ b off, A = some ⟨b, off, none⟩ ∧ b < B ∧ w.cell? ⟨b, off + k * 3, none⟩ = some (.string xs[k].key) ∧ w.cell? ⟨b, off + k * 3 + 1, none⟩ = some (.int .i64 xs[k].ver) ∧ w.cell? ⟨b, off + k * 3 + 2, none⟩ = some (.string xs[k].data) := by
  obtain ⟨b, off, e, hb, hc⟩ := Sl.at_ h hk
  exact ⟨b, off, e, hb, hc 0 _ rfl, hc 1 _ rfl, hc 2 _ rfl⟩

theorem eqObject_yes (o : GObj) (w : World) : Calls Tryz.prog 116 #[o.val, o.val] w fun e w' => e = .returned (.bool true) ∧ Below w.heap.size w w' := by
  unfold GObj.val
  go_enter Tryz.func116, Tryz.ntmps116
  go_wp2
  go_ret
  exact ⟨rfl, by repeat (first | exact Below.refl _ _ | refine Below.alloc ?_ (by simp) _)⟩

theorem ne_list {a b : ByteArray} (h : a ≠ b) : (a.toList == b.toList) = false := by
  rw [beq_eq_false_iff_ne]
  intro e
  rw [ByteArray.toList_eq, ByteArray.toList_eq] at e
  exact h (bytes_inj e)

theorem eqObject_no (o p : GObj) (h : o ≠ p) (w : World) : Calls Tryz.prog 116 #[o.val, p.val] w fun e w' => e = .returned (.bool false) ∧ Below w.heap.size w w' := by
  unfold GObj.val
  obtain ⟨k1, v1, d1⟩ := o
  obtain ⟨k2, v2, d2⟩ := p
  have H := Lib.hid h; clear h
  dsimp only
  by_cases hk : k1 = k2
  · subst hk
    by_cases hv : v1 = v2
    · subst hv
      by_cases hd : d1 = d2
      · subst hd; exact absurd rfl H.out
      · have h3 := ne_list hd
        clear hd
        go_enter Tryz.func116, Tryz.ntmps116
        go_wp2
        go_ret
        exact ⟨rfl, by repeat (first | exact Below.refl _ _ | refine Below.alloc ?_ (by simp) _)⟩
    · have h3 : (v1 == v2) = false := by simpa using hv
      have h4 : (v1 != v2) = true := by simpa using hv
      clear hv
      go_enter Tryz.func116, Tryz.ntmps116
      go_wp2
      go_ret
      exact ⟨rfl, by repeat (first | exact Below.refl _ _ | refine Below.alloc ?_ (by simp) _)⟩
  · have h3 := ne_list hk
    clear hk
    go_enter Tryz.func116, Tryz.ntmps116
    go_wp2
    go_ret
    exact ⟨rfl, by repeat (first | exact Below.refl _ _ | refine Below.alloc ?_ (by simp) _)⟩

theorem eqObject_any (o p : GObj) (w : World) : Calls Tryz.prog 116 #[o.val, p.val] w fun e w' => e = .returned (.bool (decide (o = p))) ∧ Below w.heap.size w w' := by
  by_cases h : o = p
  · subst h; simpa using eqObject_yes o w
  · simpa [h] using eqObject_no o p h w

set_option maxRecDepth 100000 in
theorem eqObjectS_any (A1 A2 : Option Addr) (c1 c2 : Nat) (xs ys : List GObj) (B : Nat) (w : World) (h1 : ObjsAt w B A1 xs) (h2 : ObjsAt w B A2 ys) (hB : B ≤ w.heap.size) (hl : xs.length ≤ 4611686018427387904) (hl2 : ys.length ≤ 4611686018427387904) :
    Calls Tryz.prog 69 #[.slice A1 xs.length c1, .slice A2 ys.length c2] w (IsBB (xs = ys) w) := by
  by_cases hlen : xs.length = ys.length
  · have hd : ((xs.length : Int) != (ys.length : Int)) = false := by simp; omega
    have hd2 : ((xs.length : Int) == (ys.length : Int)) = true := by simp; omega
    have Hlen := Lib.hid hlen; clear hlen
    have H1 := Lib.hid h1; clear h1
    have H2 := Lib.hid h2; clear h2
    go_enter Tryz.func69, Tryz.ntmps69
    go_wp2_with fail
    go_loopw [5] (fun i wr => ∃ k : Nat, k ≤ xs.length ∧ i = .int .i64 k ∧ Hid (xs.take k = ys.take k) ∧ Below w.heap.size w wr) (fun i _ => xs.length - (intOf i).toNat)
    case atStart => exact ⟨0, by omega, rfl, Lib.hid (by simp), Below.refl _ _⟩
    case round =>
      obtain ⟨k, hk, rfl, H, hb⟩ := hrel
      by_cases hlt : k < xs.length
      · have hy : k < ys.length := by have := Hlen.out; omega
        obtain ⟨b1, o1, rfl, hb1, p0, p1, p2⟩ := ObjsAt.obj (Sl.below H1.out hb hB) hlt
        obtain ⟨b2, o2, rfl, hb2, q0, q1, q2⟩ := ObjsAt.obj (Sl.below H2.out hb hB) hy
        go_wp2_with fail
        go_still_tail 8, (by kernel_rfl)
        have hb' := hb.drew
        change wpList _ _ _ _ _ wr.drew
        generalize wr.drew = w2 at hb' ⊢
        clear p0 p1 p2 q0 q1 q2
        go_wp2_with fail
        refine (eqObject_any xs[k] ys[k] w2).mono ?_
        rintro e w3 ⟨rfl, hb3⟩
        have hb4 : Below w.heap.size w w3 := hb'.trans (hb3.mono hb'.size)
        by_cases he : xs[k] = ys[k]
        · have hn : xs.take (k + 1) = ys.take (k + 1) := by
            rw [List.take_succ_eq_append_getElem hlt, List.take_succ_eq_append_getElem hy, H.out, he]
          have Hn := Lib.hid hn; clear hn
          have hd4 : decide (xs[k] = ys[k]) = true := by simpa using he
          clear he
          go_wp2
          go_roundw
          case rel => exact ⟨k + 1, by omega, by go_num, Hn, hb4⟩
          case measure => simp [intOf]; omega
        · have hn : ¬ (xs = ys) := fun h => he (by simp [h])
          have Hn := Lib.hid hn; clear hn
          have hd4 : decide (xs[k] = ys[k]) = false := by simpa using he
          clear he
          go_wp2
          go_ret
          exact ⟨false, by simp [Hn.out], rfl, hb4⟩
      · have hyes : xs = ys := by
          have h1 := H.out
          have h2 := Hlen.out
          rw [List.take_of_length_le (by omega), List.take_of_length_le (by omega)] at h1
          exact h1
        have Hy := Lib.hid hyes; clear hyes
        go_wp2
        go_ret
        exact ⟨true, by simp [Hy.out], rfl, hb⟩
  · have hd : ((xs.length : Int) != (ys.length : Int)) = true := by simp; omega
    have hd2 : ((xs.length : Int) == (ys.length : Int)) = false := by simp; omega
    have hno : ¬ (xs = ys) := fun h => hlen (by rw [h])
    have Hno := Lib.hid hno; clear hno hlen h1 h2
    go_enter Tryz.func69, Tryz.ntmps69
    go_wp2
    go_ret
    exact ⟨false, by simp [Hno.out], rfl, Below.refl _ _⟩

/-- a store's value -/
def storeV (A : Option Addr) (n c : Nat) (next : Int) : Value := .agg #[.slice A n c, .int .i64 next]

theorem eqStore_any (A1 A2 : Option Addr) (c1 c2 : Nat) (n1 n2 : Int) (xs ys : List GObj) (B : Nat) (w : World) (h1 : ObjsAt w B A1 xs) (h2 : ObjsAt w B A2 ys) (hB : B ≤ w.heap.size) (hl : xs.length ≤ 4611686018427387904) (hl2 : ys.length ≤ 4611686018427387904) :
    Calls Tryz.prog 25 #[.agg #[.slice A1 xs.length c1, .int .i64 n1], .agg #[.slice A2 ys.length c2, .int .i64 n2]] w (IsBB (xs = ys ∧ n1 = n2) w) := by
  have H1 := Lib.hid h1; clear h1
  have H2 := Lib.hid h2; clear h2
  go_enter Tryz.func25, Tryz.ntmps25
  go_wp2_with fail
  refine (eqObjectS_any A1 A2 c1 c2 xs ys B _ (Sl.below H1.out (((Below.refl _ _).alloc (by exact Nat.le_refl _) _).alloc (by simp) _) hB) (Sl.below H2.out (((Below.refl _ _).alloc (by exact Nat.le_refl _) _).alloc (by simp) _) hB) (by simp; omega) hl hl2).mono ?_
  rintro e w2 ⟨b, hb, rfl, hbel⟩
  have hc1 : w2.cell? ⟨w.heap.size, 1, none⟩ = some (.int .i64 n1) := by rw [hbel.cell (by simp; omega)]; simp
  have hc2 : w2.cell? ⟨w.heap.size + 1, 1, none⟩ = some (.int .i64 n2) := by rw [hbel.cell (by simp)]; simp
  have hw : Below w.heap.size w w2 := (((Below.refl _ _).alloc (Nat.le_refl _) _).alloc (by simp) _).trans (hbel.mono (by simp; omega))
  clear hbel
  cases b
  · have hn : ¬ (xs = ys ∧ n1 = n2) := fun h => by simp [h.1] at hb
    have Hn := Lib.hid hn; clear hn hb
    go_wp2
    go_ret
    exact ⟨false, by simp [Hn.out], rfl, hw⟩
  · by_cases he : n1 = n2
    · subst he
      have hn : (xs = ys ∧ n1 = n1) := ⟨hb.1 rfl, rfl⟩
      have Hn := Lib.hid hn; clear hn hb
      go_wp2
      go_ret
      exact ⟨true, by simp [Hn.out], rfl, hw⟩
    · have hn : ¬ (xs = ys ∧ n1 = n2) := fun h => he h.2
      have e1 : (n1 == n2) = false := by simpa using he
      have e2 : (n1 != n2) = true := by simpa using he
      have Hn := Lib.hid hn; clear hn hb he
      go_wp2
      go_ret
      exact ⟨false, by simp [Hn.out], rfl, hw⟩

/-- a text made of one byte -/
theorem conv1 (n : Int) (W : World) : (convert 67 9 (.slice (some ⟨W.heap.size, 0, none⟩) 1 1)).run Tryz.prog (W.alloc (.cells #[.int .u8 n] 5)) = .ok (.string ⟨#[UInt8.ofNat n.toNat]⟩) (W.alloc (.cells #[.int .u8 n] 5)) := by
  rw [run_convert_bytes_string _ _ _ 5 _ _ _ Tryz.underlying67 Tryz.underlying5 Tryz.underlying9]
  have hl := run_loadCells_list (P := Tryz.prog) (W.alloc (.cells #[.int .u8 n] 5)) ⟨W.heap.size, 0, none⟩ [.int .u8 n] (fun j v hj => by
    match j with
    | 0 => simp at hj; subst hj; simp [Addr.add]
    | j + 1 => simp at hj)
  rw [run_bytesToString _ _ 1 1 [n] hl]
  rfl

/-- the digits that the marks' texts are made of -/
def mtDig (n : Nat) (acc : ByteArray) : ByteArray := if h : n = 0 then acc else mtDig (n / 10) (⟨#[48 + UInt8.ofNat (n % 10)]⟩ ++ acc)
termination_by n
decreasing_by omega

/-- a mark's text -/
def mtx (k : Int) : ByteArray := if k ≤ 0 then ⟨#[109, 48]⟩ else ⟨#[109]⟩ ++ mtDig k.toNat ⟨#[]⟩

set_option maxRecDepth 100000 in
theorem markText_any (k : Int) (w : World) (hk : k ≤ 1000000000000) : Calls Tryz.prog 106 #[.int .i64 k] w fun e w' => e = .returned (.string (mtx k)) ∧ Below w.heap.size w w' := by
  by_cases h0 : k ≤ 0
  · have hd : decide (k ≤ 0) = true := by simpa using h0
    have he : mtx k = ⟨#[109, 48]⟩ := by unfold mtx; rw [if_pos h0]
    have He := Lib.hid he; clear he
    go_enter Tryz.func106, Tryz.ntmps106
    go_wp2
    go_ret
    exact ⟨by rw [He.out]; rfl, Below.refl _ _⟩
  · have hd : decide (k ≤ 0) = false := by simpa using h0
    obtain ⟨n, rfl⟩ : ∃ n : Nat, k = (n : Int) := ⟨k.toNat, by omega⟩
    have he : mtx n = ⟨#[109]⟩ ++ mtDig n ⟨#[]⟩ := by unfold mtx; rw [if_neg h0]; rfl
    have He := Lib.hid he; clear he
    have hcv := conv1
    go_enter Tryz.func106, Tryz.ntmps106
    go_wp2_with fail
    go_loopw [0, 3] (fun t o wr => ∃ (m : Nat) (s : ByteArray), t = .int .i64 m ∧ o = .string s ∧ m + s.size ≤ n ∧ Hid (mtDig m s = mtDig n ⟨#[]⟩) ∧ Below w.heap.size w wr) (fun t _ _ => (intOf t).toNat)
    case atStart => exact ⟨n, ⟨#[]⟩, rfl, rfl, Nat.le_refl _, Lib.hid rfl, Below.refl _ _⟩
    case round =>
      obtain ⟨m, s, rfl, rfl, hms, H, hb⟩ := hrel
      by_cases hlt : 0 < m
      · have hn : mtDig (m / 10) (⟨#[48 + UInt8.ofNat (m % 10)]⟩ ++ s) = mtDig n ⟨#[]⟩ := by
          rw [← H.out, mtDig.eq_1 m s, dif_neg (by omega)]
        have Hn := Lib.hid hn; clear hn
        have hsz : m / 10 + ((⟨#[48 + UInt8.ofNat (m % 10)]⟩ : ByteArray) ++ s).size ≤ n := by
          rw [ByteArray.size_append]
          show m / 10 + (1 + s.size) ≤ n
          omega
        have Hsz := Lib.hid hsz; clear hsz
        go_wp2
        go_roundw
        case rel => exact ⟨m / 10, _, by go_num, rfl, Hsz.out, Hn, hb.alloc hb.size _⟩
        case measure => simp [intOf]; omega
      · obtain rfl : m = 0 := by omega
        have hs : s = mtDig n ⟨#[]⟩ := by rw [← H.out, mtDig.eq_1 0 s, dif_pos rfl]
        have Hs := Lib.hid hs; clear hs
        go_wp2
        go_ret
        exact ⟨by rw [He.out, ← Hs.out]; rfl, hb⟩

end Go.Proofs.YtpackpocnonpiaaGreatDoor

/- Contracts of the laws' marking helpers: mark writes its marks into every element of a slice of objects, held finds them there. -/
namespace Go.Proofs.YtpackpocnonpiaaGreatDoor
open Go.ChangeShapes Go.WideShapes Go.ChangeAt Go.RowKit
set_option linter.unusedVariables false

def mkObj (k : Int) : GObj := ⟨mtx k, k + 1, mtx (k + 2)⟩

def marks (k : Int) (n : Nat) : List GObj := (List.range n).map fun i : Nat => mkObj (k + 3 * (i : Int))

theorem length_marks (k : Int) (n : Nat) : (marks k n).length = n := by simp [marks]

theorem marks_succ (k : Int) (n : Nat) : marks k (n + 1) = marks k n ++ [mkObj (k + 3 * (n : Int))] := by simp [marks, List.range_succ]

theorem marks_at (k : Int) (n i : Nat) (h : i < (marks k n).length) : (marks k n)[i] = mkObj (k + 3 * (i : Int)) := by simp [marks]

theorem vals_length (o : GObj) : o.vals.length = 3 := rfl

set_option maxRecDepth 100000 in
theorem markObjectS_any (A : Option Addr) (c : Nat) (k : Int) (xs : List GObj) (B : Nat) (w : World) (h : ObjsAt w B A xs) (hf : Free w A) (hB : B ≤ w.heap.size) (hl : xs.length ≤ 16777216) (hk0 : 0 ≤ k) (hk : k ≤ 16777216) :
    Calls Tryz.prog 70 #[.slice A xs.length c, .int .i64 k] w fun e w' => e = .returned (.int .i64 (k + 3 * xs.length)) ∧ ObjsAt w' B A (marks k xs.length) ∧ w.grownBy w' (blk A) ∧ Free w' A := by
  have H := Lib.hid h; clear h
  have Hf := Lib.hid hf; clear hf
  go_enter Tryz.func70, Tryz.ntmps70
  go_wp2_with fail
  go_loopw [1, 5] (fun t i wr => ∃ j : Nat, j ≤ xs.length ∧ i = .int .i64 j ∧ t = .int .i64 (k + 3 * j) ∧ Hid (ObjsAt wr B A (marks k j ++ xs.drop j)) ∧ w.grownBy wr (blk A) ∧ Hid (Free wr A)) (fun _ i _ => xs.length - (intOf i).toNat)
  case atStart => exact ⟨0, by omega, rfl, by simp, Lib.hid (by simpa [marks] using H.out), World.grownBy.refl _ _, Hf⟩
  case round =>
    obtain ⟨j, hj, rfl, rfl, Hr, hg, Hfr⟩ := hrel
    by_cases hlt : j < xs.length
    · have hjl : j < (marks k j ++ xs.drop j).length := by simp [length_marks]; omega
      obtain ⟨b, off, rfl, hb, p0, p1, p2⟩ := ObjsAt.obj Hr.out hjl
      have hbs : b < wr.heap.size := by have := hg.size; omega
      obtain ⟨v0, q0⟩ : ∃ v, wr.cell? ⟨b, off + j * 3, none⟩ = some v := ⟨_, p0⟩
      obtain ⟨v1, q1⟩ : ∃ v, wr.cell? ⟨b, off + j * 3 + 1, none⟩ = some v := ⟨_, p1⟩
      obtain ⟨v2, q2⟩ : ∃ v, wr.cell? ⟨b, off + j * 3 + 2, none⟩ = some v := ⟨_, p2⟩
      clear p0 p1 p2
      have fz : ∀ i, wr.frozen? ⟨b, i, none⟩ = false := Hfr.out b rfl
      have Fz := Lib.hid fz; clear fz
      go_wp2_with fail
      refine (markText_any _ _ (by omega)).mono ?_
      rintro e w1 ⟨rfl, hb1⟩
      have c0 : w1.cell? ⟨b, off + j * 3, none⟩ = some v0 := (hb1.cell hbs).trans q0
      have c1 : w1.cell? ⟨b, off + j * 3 + 1, none⟩ = some v1 := (hb1.cell hbs).trans q1
      have c2 : w1.cell? ⟨b, off + j * 3 + 2, none⟩ = some v2 := (hb1.cell hbs).trans q2
      have f0 : w1.frozen? ⟨b, off + j * 3, none⟩ = false := (hb1.frozen hbs).trans (Fz.out _)
      have f1 : w1.frozen? ⟨b, off + j * 3 + 1, none⟩ = false := (hb1.frozen hbs).trans (Fz.out _)
      have f2 : w1.frozen? ⟨b, off + j * 3 + 2, none⟩ = false := (hb1.frozen hbs).trans (Fz.out _)
      have hg1 : w.grownBy w1 (some b) := grown_trans hg (grown_of_below hb1 _)
      have fr1 : ∀ i, w1.frozen? ⟨b, i, none⟩ = false := fun i => (hb1.frozen hbs).trans (Fz.out i)
      have ol1 : ∀ i, w1.cell? ⟨b, i, none⟩ = wr.cell? ⟨b, i, none⟩ := fun i => hb1.cell hbs
      have Fr1 := Lib.hid fr1; clear fr1
      have Ol1 := Lib.hid ol1; clear ol1
      go_wp2_with fail
      obtain ⟨w2, hw2⟩ : ∃ w2, w2 = (w1.setCell ⟨b, off + j * 3, none⟩ (.string (mtx (k + 3 * (j : Int))))).setCell ⟨b, off + j * 3 + 1, none⟩ (.int .i64 (k + 3 * (j : Int) + 1)) := ⟨_, rfl⟩
      have d0 : w2.cell? ⟨b, off + j * 3, none⟩ = some (.string (mtx (k + 3 * (j : Int)))) := by
        rw [hw2, cset_ne _ _ _ _ _ (by omega), cset_eq _ _ _ _ c0]
      have d1 : w2.cell? ⟨b, off + j * 3 + 1, none⟩ = some (.int .i64 (k + 3 * (j : Int) + 1)) := by
        rw [hw2]; exact cset_eq _ _ _ _ ((cset_ne _ _ _ _ _ (by omega)).trans c1)
      have dO : ∀ i, i ≠ off + j * 3 → i ≠ off + j * 3 + 1 → w2.cell? ⟨b, i, none⟩ = wr.cell? ⟨b, i, none⟩ := fun i h0 h1 => by
        rw [hw2, cset_ne _ _ _ _ _ (by omega), cset_ne _ _ _ _ _ (by omega)]; exact Ol1.out i
      have dF : ∀ i, w2.frozen? ⟨b, i, none⟩ = false := fun i => by rw [hw2, frozen_setCell, frozen_setCell]; exact Fr1.out i
      have dG : w.grownBy w2 (some b) := by rw [hw2]; exact grown_setCell (grown_setCell hg1 _ (.inl rfl) _) _ (.inl rfl) _
      rw [← hw2]
      clear hw2 c0 c1 c2 f0 f1 f2 hg1 Fr1 Ol1 hb1
      have DO := Lib.hid dO; clear dO
      have DF := Lib.hid dF; clear dF
      have D0 := Lib.hid d0; clear d0
      have D1 := Lib.hid d1; clear d1
      have hb2s : b < w2.heap.size := by have := dG.size; omega
      rw [show k + 3 * (j : Int) + 1 + 1 = k + 3 * (j : Int) + 2 from by omega]
      refine (markText_any _ _ (by omega)).mono ?_
      rintro e w3 ⟨rfl, hb3⟩
      have c2 : w3.cell? ⟨b, off + j * 3 + 2, none⟩ = some v2 := (hb3.cell hb2s).trans ((DO.out _ (by omega) (by omega)).trans q2)
      have f2 : w3.frozen? ⟨b, off + j * 3 + 2, none⟩ = false := (hb3.frozen hb2s).trans (DF.out _)
      have hn : ObjsAt (w3.setCell ⟨b, off + j * 3 + 2, none⟩ (.string (mtx (k + 3 * (j : Int) + 2)))) B (some ⟨b, off, none⟩) (marks k (j + 1) ++ xs.drop (j + 1)) := by
        rw [marks_succ, ← set_mid (marks k j) xs j (mkObj (k + 3 * (j : Int))) (length_marks k j) hlt]
        refine Sl.set Hr.out vals_length hjl _ ?_ ?_
        · intro i v hv
          match i, hv with
          | 0, hv =>
            simp [GObj.vals, mkObj] at hv; subst hv
            rw [cset_ne _ _ _ _ _ (by omega)]; exact (hb3.cell hb2s).trans D0.out
          | 1, hv =>
            simp [GObj.vals, mkObj] at hv; subst hv
            rw [cset_ne _ _ _ _ _ (by omega)]; exact (hb3.cell hb2s).trans D1.out
          | 2, hv =>
            simp [GObj.vals, mkObj] at hv; subst hv
            exact cset_eq _ _ _ _ c2
          | i + 3, hv => simp [GObj.vals] at hv
        · intro i hi
          rw [cset_ne _ _ _ _ _ (by omega)]
          exact (hb3.cell hb2s).trans (DO.out i (by omega) (by omega))
      have Hn := Lib.hid hn; clear hn
      have hg3 : w.grownBy (w3.setCell ⟨b, off + j * 3 + 2, none⟩ (.string (mtx (k + 3 * (j : Int) + 2)))) (some b) := grown_setCell (grown_trans dG (grown_of_below hb3 _)) _ (.inl rfl) _
      have hf3 : Free (w3.setCell ⟨b, off + j * 3 + 2, none⟩ (.string (mtx (k + 3 * (j : Int) + 2)))) (some ⟨b, off, none⟩) := fun b' e i => by
        simp [blk] at e; subst e
        rw [frozen_setCell]; exact (hb3.frozen hb2s).trans (DF.out i)
      have Hf3 := Lib.hid hf3; clear hf3
      have Hg3 := Lib.hid hg3; clear hg3
      go_wp2
      go_roundw
      case rel => exact ⟨j + 1, by omega, by go_num, by go_num, Hn, Hg3.out, Hf3⟩
      case measure => simp [intOf]; omega
    · obtain rfl : j = xs.length := by omega
      have hn : ObjsAt wr B A (marks k xs.length) := by simpa using Hr.out
      have Hn := Lib.hid hn; clear hn
      go_wp2
      go_ret
      exact ⟨rfl, Hn.out, hg, Hfr.out⟩

end Go.Proofs.YtpackpocnonpiaaGreatDoor

/- Contracts of the laws' holding helpers: held finds the marks that mark wrote. -/
namespace Go.Proofs.YtpackpocnonpiaaGreatDoor
open Go.ChangeShapes Go.WideShapes Go.ChangeAt Go.RowKit
set_option linter.unusedVariables false

end Go.Proofs.YtpackpocnonpiaaGreatDoor
