/-
  Contracts of the model's l03ToBuckets and ReadBuckets: just the text of right buckets is read. Conditions: a text's length.
-/
import Derived.Test.YtcocgocnffnkpaaDoorSpecRd
import Derived.Test.YtcocgocnffnkpaaDoorBktTxt
import Derived.Test.YtcocgocnffnkpaaDoorSpecRdS
namespace Go.Proofs.YtcocgocnffnkpaaDoor
open Go.ChangeShapes Go.WideShapes Go.ChangeAt Go.RowKit
set_option linter.unusedVariables false
set_option linter.unusedSimpArgs false

/-- a text is that of these buckets -/
def BktOf (t : ByteArray) (xs : List GBkt) : Prop := (xs = [] ∧ t.size = 0) ∨ (xs ≠ [] ∧ Pieces t 32 (xs.map bktT))

def BktRead (t : ByteArray) (xs : List GBkt) : Prop := BktP xs ∧ BktOf t xs

def NoBkt (t : ByteArray) : Prop := ∀ xs, ¬ BktRead t xs

theorem aggT_nums (a : GAgg) : NumsOf (aggT a) 44 a.nums := by
  refine ⟨[numT a.cnt, numT a.sum, numT a.mn, numT a.mx, numT a.fst], numT a.lst, rfl, ?_⟩
  simp [aggT, joinT, comma, GAgg.nums, Lib.join, flatC]

theorem nums_text {q q' : ByteArray} {c : UInt8} {ns : List Int} (h : NumsOf q c ns) (k : NumsOf q' c ns) : q = q' := by
  obtain ⟨ps, last, e, h⟩ := h
  obtain ⟨ps', last', e', k⟩ := k
  rw [e] at e'
  obtain ⟨rfl, e2⟩ := List.append_inj' e' rfl
  simp at e2
  subst e2
  exact ba_eq (h.trans k.symm)

theorem agg_bytes (a : GAgg) (c : UInt8) (hc : NoNum c) (h44 : c ≠ 44) : c ∉ (aggT a).data.toList := by
  obtain ⟨ps, last, e, h⟩ := aggT_nums a
  rw [h]
  intro hm
  have hn : ∀ p ∈ ps ++ [last], c ∉ p.data.toList := by
    rw [← e]
    intro p hp
    obtain ⟨n, _, rfl⟩ := List.mem_map.1 hp
    exact num_nocomma n c hc
  rcases List.mem_append.1 hm with hm | hm
  · unfold flatC at hm
    obtain ⟨p, hp, hm⟩ := List.mem_flatMap.1 hm
    rcases List.mem_append.1 hm with hm | hm
    · exact hn p (by simp [hp]) hm
    · simp at hm; exact h44 hm
  · exact hn last (by simp) hm

theorem colon_no : NoNum 58 := Or.inr (Or.inl (by decide))

theorem bkt_cut (s : GBkt) : CutOf (bktT s) 58 [numT s.beg] (aggT s.agg) :=
  ⟨by simp [bktT, flatC, ByteArray.data_append], fun p hp => by simp at hp; subst hp; exact num_nocomma _ 58 colon_no, agg_bytes _ 58 colon_no (by decide)⟩

theorem bktT_of {x p q : ByteArray} {n : Int} {a : GAgg} (h : CutOf x 58 [p] q) (hp : p = numT n) (hq : NumsOf q 44 a.nums) : x = bktT ⟨n, a⟩ := by
  have e := nums_text hq (aggT_nums a)
  subst hp e
  apply ba_eq
  rw [h.1, (bkt_cut ⟨n, a⟩).1]

theorem bktT_blank (s : GBkt) : (32 : UInt8) ∉ (bktT s).data.toList := by
  intro h
  simp only [bktT, ByteArray.data_append, Array.toList_append, List.mem_append] at h
  rcases h with (h | h) | h
  · exact num_nocomma s.beg 32 (Or.inl (by decide)) h
  · simp at h
  · exact agg_bytes s.agg 32 (Or.inl (by decide)) (by decide) h

theorem bkts_cut {t : ByteArray} {xs : List GBkt} {ps : List ByteArray} {last : ByteArray} (h : Pieces t 32 (xs.map bktT)) (k : CutOf t 32 ps last) : ps ++ [last] = xs.map bktT := by
  obtain ⟨qs, b, e, h⟩ := h
  have hn : ∀ p ∈ qs ++ [b], (32 : UInt8) ∉ p.data.toList := by
    rw [← e]
    intro p hp
    obtain ⟨s, _, rfl⟩ := List.mem_map.1 hp
    exact bktT_blank s
  obtain ⟨e1, e2⟩ := CutOf.one (t := t) k ⟨h, fun p hp => hn p (by simp [hp]), hn b (by simp)⟩
  rw [e1, e2, e]

/-- each bucket's numbers are within a number's text -/
theorem bktP_small {xs : List GBkt} (h : BktP xs) : ∀ s ∈ xs, Small s.beg ∧ AggP s.agg := by
  intro s hs
  obtain ⟨i, hi, rfl⟩ := List.mem_iff_getElem.1 hs
  have h1 := (h.2 i hi hi).1
  have h2 := (h.2 i hi hi).2.1
  refine ⟨?_, h2⟩
  simp [inB] at h1
  unfold Small
  omega

theorem bkt_one (s : GBkt) : ∀ u ∈ GBkt.vals s, u.oneCell' = true := by
  intro u hu
  simp [GBkt.vals] at hu
  rcases hu with rfl | rfl | rfl | rfl | rfl | rfl | rfl <;> rfl

theorem new_bkt (w : World) (s : GBkt) (e : TypeId) : Sl GBkt.vals 7 (w.alloc (.cells #[.int .i64 s.beg, .int .i64 s.agg.cnt, .int .i64 s.agg.sum, .int .i64 s.agg.mn, .int .i64 s.agg.mx, .int .i64 s.agg.fst, .int .i64 s.agg.lst] e)) (w.heap.size + 1) (some ⟨w.heap.size, 0, none⟩) [s] := by
  intro _
  refine ⟨w.heap.size, 0, rfl, by omega, fun k hk j v hv => ?_⟩
  obtain rfl : k = 0 := by simpa using hk
  rw [World.cell?_alloc_new]
  match j, hv with
  | 0, hv => simpa [GBkt.vals] using hv
  | 1, hv => simpa [GBkt.vals] using hv
  | 2, hv => simpa [GBkt.vals] using hv
  | 3, hv => simpa [GBkt.vals] using hv
  | 4, hv => simpa [GBkt.vals] using hv
  | 5, hv => simpa [GBkt.vals] using hv
  | 6, hv => simpa [GBkt.vals] using hv
  | j + 7, hv => simp [GBkt.vals] at hv

/-- a bucket's numbers are ints -/
def FitB (s : GBkt) : Prop := FitI s.beg ∧ ∀ n ∈ s.agg.nums, FitI n

theorem bkt_inj : ∀ {xs ys : List GBkt}, (∀ s ∈ xs, FitB s) → (∀ s ∈ ys, FitB s) → xs.map bktT = ys.map bktT → xs = ys
  | [], [], _, _, _ => rfl
  | [], y :: ys, _, _, e => by simp at e
  | x :: xs, [], _, _, e => by simp at e
  | x :: xs, y :: ys, hx, hy, e => by
    simp at e
    have h1 := bkt_cut x
    rw [e.1] at h1
    obtain ⟨g1, g2⟩ := CutOf.one (t := bktT y) h1 (bkt_cut y)
    simp at g1
    have fx := hx x (by simp)
    have fy := hy y (by simp)
    have e1 := num_inj fx.1.1 fx.1.2 fy.1.1 fy.1.2 g1
    have e2 := nums_one comma_no (aggT_nums x.agg) (by rw [g2]; exact aggT_nums y.agg) fx.2 fy.2
    have e3 := bkt_inj (xs := xs) (ys := ys) (fun s hs => hx s (by simp [hs])) (fun s hs => hy s (by simp [hs])) (by simpa using e.2)
    obtain ⟨x1, ⟨x2, x3, x4, x5, x6, x7⟩⟩ := x
    obtain ⟨y1, ⟨y2, y3, y4, y5, y6, y7⟩⟩ := y
    simp [GAgg.nums] at e1 e2
    obtain ⟨rfl, rfl, rfl, rfl, rfl, rfl⟩ := e2
    rw [e1, e3]

set_option maxRecDepth 100000 in
set_option maxHeartbeats 1000000 in
theorem toBuckets_any (t : ByteArray) (w : World) (ht : t.size ≤ 1000000) : Calls Tryd.prog 62 #[.string t] w fun e w' => ∃ A k xs b, e = .returned (.tuple #[.slice A xs.length k, .bool b]) ∧ ((b = true ∧ BktRead t xs) ∨ (b = false ∧ xs = [] ∧ NoBkt t)) ∧ OwnSl GBkt.vals 7 87 w.heap.size w' (.slice A xs.length k) xs ∧ Below w.heap.size w w' := by
  by_cases hz : t.size = 0
  · have he : t.toList.isEmpty = true := by rw [ByteArray.toList_eq]; simp; exact Array.eq_empty_of_size_eq_zero hz
    have HR := Lib.hid (show BktRead t [] from ⟨⟨by simp, fun j h => by simp at h⟩, Or.inl ⟨rfl, hz⟩⟩)
    have HO := Lib.hid (own_empty GBkt.vals 7 87 w)
    have hb := bal (Below.refl _ w) (.cells #[] 87)
    go_enter Tryd.func62, Tryd.ntmps62
    go_wp2
    exact bodyPost_ret (v := .tuple #[.slice (some ⟨w.heap.size, 0, none⟩) 0 0, .bool true]) (by simp [results, Tryd.results62, go_sem]) rfl ⟨_, _, [], true, rfl, Or.inl ⟨rfl, HR.out⟩, HO.out, hb⟩
  have he : t.toList.isEmpty = false := by
    rw [ByteArray.toList_eq]
    cases h : t.data.toList.isEmpty
    · rfl
    · exact absurd (by simp at h; rw [ByteArray.size, h]; rfl) hz
  go_enter Tryd.func62, Tryd.ntmps62
  go_wp2_with fail
  have O0 := Lib.hid (own_empty GBkt.vals 7 87 w)
  have hb0 : Below w.heap.size w (w.alloc (.cells #[] 87)) := bal (Below.refl _ _) _
  have hs0 : (w.alloc (.cells #[] 87)).heap.size = w.heap.size + 1 := by simp
  generalize w.alloc (.cells #[] 87) = w0 at *
  generalize hx0 : w.heap.size = x0 at *
  have Hx0 := Lib.hid hx0; clear hx0
  refine (l00Cut_any t 32 w0 (by omega)).mono ?_
  rintro e w1 ⟨A1, k1, ps, last, rfl, hO, hC, hb1⟩
  obtain ⟨ws, hws⟩ : ∃ ws, ws = ps ++ [last] := ⟨_, rfl⟩
  have hwl : ps.length + 1 = ws.length := by rw [hws]; simp
  obtain ⟨hz1, hz2⟩ := cut_len hC
  rw [← hws] at hz1
  have hwm : ws.length ≤ 1000001 := by omega
  have hw0 : ws ≠ [] := by rw [hws]; simp
  rw [← hws, hwl] at hO
  have HF := Lib.hid (show (∀ xs, BktRead t xs → ws = xs.map bktT) ∧ Pieces t 32 ws from ⟨fun xs h => by
    rcases h.2 with ⟨_, h0⟩ | ⟨_, h⟩
    · exact absurd h0 hz
    · rw [hws]; exact bkts_cut h hC, by rw [hws]; exact hC.pieces⟩)
  have HZ := Lib.hid hz1; clear hz1
  obtain ⟨hsl, _, hbk, _⟩ := OwnSl.sl hO (fun x => rfl)
  have Hsl := Lib.hid hsl
  have HBk := Lib.hid hbk; clear hsl hO hC hz2 hbk
  have O1 := Lib.hid (O0.out.below hb1)
  have hs1 : w0.heap.size ≤ w1.heap.size := hb1.size
  have hbw : Below x0 w w1 := hb0.trans (hb1.mono (by omega))
  have HW0 := Lib.hid hw0
  rw [hwl]
  clear hws hwl O0 hb1 hb0 hw0 he
  go_wp2_with fail
  go_loopw [4, 6] (fun o i wr => ∃ (A : Option Addr) (k j : Nat) (ss : List GBkt), o = .slice A ss.length k ∧ i = .int .i64 j ∧ j ≤ ws.length ∧ Hid (ss.length = j) ∧ Hid (OwnSl GBkt.vals 7 87 x0 wr (.slice A ss.length k) ss) ∧ Hid (ws.take j = ss.map bktT ∧ ∀ s ∈ ss, FitB s) ∧ Hid (∀ g, blk A = some g → g = x0 ∨ w1.heap.size ≤ g) ∧ Hid (w1.grownBy wr (some x0))) (fun _ i _ => ws.length - (intOf i).toNat)
  case atStart => exact ⟨_, _, 0, [], rfl, rfl, by omega, Lib.hid rfl, O1, Lib.hid ⟨rfl, by simp⟩, Lib.hid (fun g e => by simp [blk] at e; exact Or.inl e.symm), Lib.hid (grown_of_below (Below.refl _ _) _)⟩
  case round =>
    clear O1
    obtain ⟨A, k, j, ss, rfl, rfl, hj, HL, HO, HT, HK, HG⟩ := hrel
    have hsm : ss.length ≤ 1000001 := by have := HL.out; omega
    have hBr : Below x0 w wr := hbw.trans (below_of_grown HG.out (by omega) (fun g e => by injection e with e; omega))
    by_cases hlt : j < ws.length
    · obtain ⟨b, o, rfl, hbb, hcl⟩ := Sl.at_ Hsl.out hlt
      have hbx : b ≠ x0 := by have := (HBk.out b rfl).1; omega
      have p0 : wr.cell? ⟨b, o + j, none⟩ = some (.string ws[j]) := by
        have := hcl 0 (.string ws[j]) rfl
        simp only [Nat.mul_one, Nat.add_zero] at this
        exact (World.cell?_of_block (a := ⟨b, o + j, none⟩) (HG.out.block b hbb (fun e => hbx (by injection e)))).trans this
      have hxz := HZ.out ws[j] (List.getElem_mem hlt)
      have hrd := l00Cut_any ws[j] 58 wr (by omega)
      have Hrd := Lib.hid hrd; clear hrd
      have HX := Lib.hid (show ws.take (j + 1) = ws.take j ++ [ws[j]] from List.take_succ_eq_append_getElem hlt)
      have HX2 := Lib.hid (show ws[j] ∈ ws from List.getElem_mem hlt)
      have HXZ := Lib.hid hxz
      clear hcl hxz
      generalize ws[j] = X at *
      go_wp2_with fail
      refine Hrd.out.mono ?_
      rintro e w3 ⟨A3, k3, ps3, last3, rfl, hO3, hC3, hb3⟩
      clear Hrd
      have HOb := Lib.hid (HO.out.below hb3)
      have HG3 := Lib.hid (grown_trans HG.out (grown_of_below hb3 (some x0)))
      have hs3 : wr.heap.size ≤ w3.heap.size := hb3.size
      have hs3x : x0 ≤ w3.heap.size := by have := HG.out.size; omega
      have hB3 : Below x0 w w3 := hBr.trans (hb3.mono (by have := HG.out.size; omega))
      have HNo := Lib.hid (show (∀ s, Small s.beg → AggP s.agg → X ≠ bktT s) → NoBkt t from fun hno xs h => by
        have hx := HX2.out
        rw [HF.out.1 xs h] at hx
        obtain ⟨s, hs, e⟩ := List.mem_map.1 hx
        have sm := bktP_small h.1 s hs
        exact hno s sm.1 sm.2 e.symm)
      have HNe := Lib.hid (show ∀ w4, Below x0 w w4 → x0 ≤ w4.heap.size → OwnSl GBkt.vals 7 87 x0 (w4.alloc (.cells #[] 87)) (.slice (some ⟨w4.heap.size, 0, none⟩) 0 0) [] ∧ Below x0 w (w4.alloc (.cells #[] 87)) from fun w4 hb4 sz => by
        have OE := own_empty GBkt.vals 7 87 w4
        exact ⟨⟨OE.1, by
          rcases OE.2 with h | ⟨g, cap, cur, e, hb, r⟩
          · exact Or.inl h
          · exact Or.inr ⟨g, cap, cur, e, Nat.le_trans sz hb, r⟩⟩, hb4.alloc sz _⟩)
      clear hb3 HO hBr p0
      match ps3 with
      | [] =>
        have HN := Lib.hid (HNo.out (fun s _ _ e => by
          rw [e] at hC3
          have := (CutOf.one (t := X) hC3 (bkt_cut s)).1
          cases this))
        obtain ⟨h1, h2⟩ := HNe.out w3 hB3 hs3x
        have H1 := Lib.hid h1; have H2 := Lib.hid h2
        clear hO3 hC3 HNo HNe h1 h2 HX HX2 HT HOb HG3
        go_wp2
        exact bodyPost_ret (v := .tuple #[.slice (some ⟨w3.heap.size, 0, none⟩) 0 0, .bool false]) (by simp [results, Tryd.results62, go_sem]) rfl ⟨_, _, [], false, rfl, Or.inr ⟨rfl, rfl, HN.out⟩, by rw [Hx0.out]; exact H1.out, by rw [Hx0.out]; exact H2.out⟩
      | p :: q :: r =>
        have HN := Lib.hid (HNo.out (fun s _ _ e => by
          rw [e] at hC3
          have := (CutOf.one (t := X) hC3 (bkt_cut s)).1
          simp at this))
        have d0 : (((p :: q :: r).length + 1 : Nat) : Int) ≠ 2 := by simp; omega
        have d1 : ((((p :: q :: r).length + 1 : Nat) : Int) != 2) = true := by simpa using d0
        generalize (p :: q :: r).length + 1 = N at *
        obtain ⟨h1, h2⟩ := HNe.out w3 hB3 hs3x
        have H1 := Lib.hid h1; have H2 := Lib.hid h2
        clear hO3 hC3 HNo HNe h1 h2 HX HX2 HT HOb HG3 d0
        go_wp2
        exact bodyPost_ret (v := .tuple #[.slice (some ⟨w3.heap.size, 0, none⟩) 0 0, .bool false]) (by simp [results, Tryd.results62, go_sem]) rfl ⟨_, _, [], false, rfl, Or.inr ⟨rfl, rfl, HN.out⟩, by rw [Hx0.out]; exact H1.out, by rw [Hx0.out]; exact H2.out⟩
      | [p] =>
        obtain ⟨hsl3, _, hbk3, _⟩ := OwnSl.sl (xs := [p] ++ [last3]) hO3 (fun x => rfl)
        obtain ⟨b3, o3, rfl, hbb3, hc0⟩ := Sl.at_ hsl3 (k := 0) (by simp)
        obtain ⟨b4, o4, e4, _, hc1⟩ := Sl.at_ hsl3 (k := 1) (by simp)
        injection e4 with e4
        injection e4 with e4 e5
        subst e4 e5
        have q0 : w3.cell? ⟨b3, o3, none⟩ = some (.string p) := by simpa using hc0 0 (.string p) rfl
        have q1 : w3.cell? ⟨b3, o3 + 1, none⟩ = some (.string last3) := by simpa using hc1 0 (.string last3) rfl
        obtain ⟨hzp, _⟩ := cut_len hC3
        have hp1 := hzp p (by simp)
        have hp2 := hzp last3 (by simp)
        have hXZ := HXZ.out
        have HC3 := Lib.hid hC3
        clear hsl3 hbk3 hc0 hc1 hO3 hC3 hzp
        simp only [List.length_cons, List.length_nil] at *
        go_wp2_with fail
        refine (l02Number_any p w3 (by omega)).mono ?_
        rintro e w4 ⟨n, ok, rfl, hn, hb4⟩
        have HNn := Lib.hid hn; clear hn
        have q1' : w4.cell? ⟨b3, o3 + 1, none⟩ = some (.string last3) := (hb4.cell (p := ⟨b3, o3 + 1, none⟩) hbb3).trans q1
        have hB4 : Below x0 w w4 := hB3.trans (hb4.mono hs3x)
        have hs4 := hb4.size
        have HOb4 := Lib.hid (HOb.out.below hb4)
        have HG4 := Lib.hid (grown_trans HG3.out (grown_of_below hb4 (some x0)))
        clear q0 q1 hB3 hb4 HOb HG3
        go_wp2_with fail
        refine (l02Read_any last3 w4 (by omega)).mono ?_
        rintro e w5 ⟨a, fine, rfl, ha, hb5⟩
        have HA := Lib.hid ha; clear ha
        have hB5 : Below x0 w w5 := hB4.trans (hb5.mono (by omega))
        have hs5 := hb5.size
        have HOb5 := Lib.hid (HOb4.out.below hb5)
        have HG5 := Lib.hid (grown_trans HG4.out (grown_of_below hb5 (some x0)))
        clear q1' hB4 hb5 HOb4 HG4
        cases ok
        · have HN := Lib.hid (HNo.out (fun s sb _ e => by
            have hc := HC3.out
            rw [e] at hc
            have e1 := (CutOf.one (t := X) hc (bkt_cut s)).1
            simp at e1
            rcases HNn.out with ⟨h, _⟩ | ⟨_, h⟩
            · cases h
            · exact h s.beg sb e1))
          obtain ⟨h1, h2⟩ := HNe.out (w5.alloc (.cells #[.int .i64 a.cnt, .int .i64 a.sum, .int .i64 a.mn, .int .i64 a.mx, .int .i64 a.fst, .int .i64 a.lst] 24)) (hB5.alloc (by omega) _) (by simp; omega)
          have hz6 : (w5.alloc (.cells #[.int .i64 a.cnt, .int .i64 a.sum, .int .i64 a.mn, .int .i64 a.mx, .int .i64 a.fst, .int .i64 a.lst] 24)).heap.size = w5.heap.size + 1 := by simp
          rw [hz6] at h1
          have H1 := Lib.hid h1; have H2 := Lib.hid h2
          clear HNo HNe h1 h2 HX HX2 HT HOb5 HG5 HNn HA hz6
          go_wp2
          exact bodyPost_ret (v := .tuple #[.slice (some ⟨w5.heap.size + 1, 0, none⟩) 0 0, .bool false]) (by simp [results, Tryd.results62, go_sem]) rfl ⟨_, _, [], false, rfl, Or.inr ⟨rfl, rfl, HN.out⟩, by rw [Hx0.out]; exact H1.out, by rw [Hx0.out]; exact H2.out⟩
        cases fine
        · have HN := Lib.hid (HNo.out (fun s _ sa e => by
            have hc := HC3.out
            rw [e] at hc
            have e1 := (CutOf.one (t := X) hc (bkt_cut s)).2
            rcases HA.out with ⟨h, _⟩ | ⟨_, _, h⟩
            · cases h
            · exact h s.agg ⟨sa, by rw [e1]; exact aggT_nums s.agg⟩))
          obtain ⟨h1, h2⟩ := HNe.out (w5.alloc (.cells #[.int .i64 a.cnt, .int .i64 a.sum, .int .i64 a.mn, .int .i64 a.mx, .int .i64 a.fst, .int .i64 a.lst] 24)) (hB5.alloc (by omega) _) (by simp; omega)
          have hz6 : (w5.alloc (.cells #[.int .i64 a.cnt, .int .i64 a.sum, .int .i64 a.mn, .int .i64 a.mx, .int .i64 a.fst, .int .i64 a.lst] 24)).heap.size = w5.heap.size + 1 := by simp
          rw [hz6] at h1
          have H1 := Lib.hid h1; have H2 := Lib.hid h2
          clear HNo HNe h1 h2 HX HX2 HT HOb5 HG5 HNn HA hz6
          go_wp2
          exact bodyPost_ret (v := .tuple #[.slice (some ⟨w5.heap.size + 1, 0, none⟩) 0 0, .bool false]) (by simp [results, Tryd.results62, go_sem]) rfl ⟨_, _, [], false, rfl, Or.inr ⟨rfl, rfl, HN.out⟩, by rw [Hx0.out]; exact H1.out, by rw [Hx0.out]; exact H2.out⟩
        have hpn : p = numT n ∧ FitI n := by
          rcases HNn.out with ⟨_, h1, h2, h3⟩ | ⟨h, _⟩
          · exact ⟨h1, h2, h3⟩
          · cases h
        have hag : AggRead last3 a := by
          rcases HA.out with ⟨_, h⟩ | ⟨h, _⟩
          · exact h
          · cases h
        have HT2 := Lib.hid (show ws.take (j + 1) = (ss ++ [(⟨n, a⟩ : GBkt)]).map bktT ∧ ∀ s ∈ ss ++ [(⟨n, a⟩ : GBkt)], FitB s from by
          refine ⟨by rw [HX.out, HT.out.1, bktT_of HC3.out hpn.1 hag.2]; simp, fun s hs => ?_⟩
          rcases List.mem_append.1 hs with hs | hs
          · exact HT.out.2 s hs
          · simp at hs; subst hs; exact ⟨hpn.2, fun m hm => small_fitI (aggP_small hag.1 m hm)⟩)
        have hz6 : (w5.alloc (.cells #[.int .i64 a.cnt, .int .i64 a.sum, .int .i64 a.mn, .int .i64 a.mx, .int .i64 a.fst, .int .i64 a.lst] 24)).heap.size = w5.heap.size + 1 := by simp
        have hb7 : Below w5.heap.size w5 ((w5.alloc (.cells #[.int .i64 a.cnt, .int .i64 a.sum, .int .i64 a.mn, .int .i64 a.mx, .int .i64 a.fst, .int .i64 a.lst] 24)).alloc (.cells #[.int .i64 n, .int .i64 a.cnt, .int .i64 a.sum, .int .i64 a.mn, .int .i64 a.mx, .int .i64 a.fst, .int .i64 a.lst] 87)) := bal (bal (Below.refl _ w5) _) _
        have HO7 := Lib.hid (HOb5.out.below hb7)
        have hnw := new_bkt (w5.alloc (.cells #[.int .i64 a.cnt, .int .i64 a.sum, .int .i64 a.mn, .int .i64 a.mx, .int .i64 a.fst, .int .i64 a.lst] 24)) ⟨n, a⟩ 87
        rw [hz6] at hnw
        have HNw := Lib.hid hnw
        have HG7 := Lib.hid (grown_trans HG5.out (grown_of_below hb7 (some x0)))
        have hz7 : ((w5.alloc (.cells #[.int .i64 a.cnt, .int .i64 a.sum, .int .i64 a.mn, .int .i64 a.mx, .int .i64 a.fst, .int .i64 a.lst] 24)).alloc (.cells #[.int .i64 n, .int .i64 a.cnt, .int .i64 a.sum, .int .i64 a.mn, .int .i64 a.mx, .int .i64 a.fst, .int .i64 a.lst] 87)).heap.size = w5.heap.size + 2 := by simp
        clear hnw hb7 HNo HNe HX HX2 HT HOb5 HG5 HNn HA hpn hag HC3
        go_wp2_with (at_builtin; refine wpList_append_sl GBkt.vals 7 56 (fun _ => rfl) bkt_one 51 87 _ infoBkt rfl (by omega) Tryd.underlying51 rfl _ _ rfl x0 ss [⟨n, a⟩] (.slice A ss.length k) rfl HO7.out (some ⟨w5.heap.size + 1, 0, none⟩) 1 (w5.heap.size + 1 + 1) rfl HNw.out (by simp [maxLen]; omega) (by simp; omega) (by rw [hz7]; omega) ?_; intro v' w8 hO8 hg8 ho8; obtain ⟨A8, c8, rfl⟩ := hO8.form; have HO8 := Lib.hid hO8; clear hO8; have Hg8 := Lib.hid hg8; clear hg8; have Ho8 := Lib.hid ho8; clear ho8)
        have HK8 := Lib.hid (show ∀ g, blk A8 = some g → g = x0 ∨ w1.heap.size ≤ g from fun g e => by
          have ho8 := Ho8.out
          rw [ownBlock_blk, ownBlock_blk, hz7] at ho8
          rcases ho8 with h | h
          · rw [h] at e; exact HK.out g e
          · rw [h] at e; injection e with e; have := HG.out.size; omega)
        have HG8 := Lib.hid (grown_step HG7.out Hg8.out (fun g e => by rw [ownBlock_blk] at e; exact HK.out g e))
        go_roundw
        case rel => exact ⟨A8, c8, j + 1, ss ++ [⟨n, a⟩], by simp, by go_num, by omega, Lib.hid (by simp [HL.out]), HO8, HT2, HK8, HG8⟩
        case measure => simp [intOf]; omega
    · obtain rfl : j = ws.length := by omega
      have hT : ws = ss.map bktT := by have := HT.out.1; rwa [List.take_length] at this
      have HS0 := Lib.hid (show ss ≠ [] from fun h => HW0.out (by rw [hT, h]; rfl))
      obtain ⟨hsl2, _, _, _⟩ := OwnSl.sl HO.out (fun x => rfl)
      have HSl2 := Lib.hid hsl2; clear hsl2
      have HTT := Lib.hid hT; clear hT
      go_wp2_with fail
      refine (specBucketsOK_any A k ss wr.heap.size wr HSl2.out (Nat.le_refl _) (by omega)).mono ?_
      rintro e w4 ⟨b, hb, rfl, hb4⟩
      have HO4 := Lib.hid (HO.out.below hb4)
      have hB4 : Below x0 w w4 := hBr.trans (hb4.mono (by have := HG.out.size; omega))
      have HN0 := Lib.hid (show ∀ xs, BktRead t xs → BktP ss from fun xs h => by
        have e1 := HF.out.1 xs h
        rw [HTT.out] at e1
        have e2 : ss = xs := bkt_inj HT.out.2 (fun s hs => by have := bktP_small h.1 s hs; exact ⟨small_fitI this.1, fun n hn => small_fitI (aggP_small this.2 n hn)⟩) e1
        rw [e2]
        exact h.1)
      have sz : x0 ≤ w4.heap.size := by have := HG.out.size; have := hb4.size; omega
      have OE := own_empty GBkt.vals 7 87 w4
      have bE := Lib.hid (hB4.alloc sz (.cells #[] 87))
      have OE2 := Lib.hid (show OwnSl GBkt.vals 7 87 x0 (w4.alloc (.cells #[] 87)) (.slice (some ⟨w4.heap.size, 0, none⟩) 0 0) [] from ⟨OE.1, by
        rcases OE.2 with h | ⟨g, cap, cur, e, hb, r⟩
        · exact Or.inl h
        · exact Or.inr ⟨g, cap, cur, e, Nat.le_trans sz hb, r⟩⟩)
      clear hb4 hBr OE HO HSl2
      cases b
      · have HN := Lib.hid (show NoBkt t from fun xs h => Bool.noConfusion (hb.2 (HN0.out xs h)))
        clear hb HN0
        go_wp2
        exact bodyPost_ret (v := .tuple #[.slice (some ⟨w4.heap.size, 0, none⟩) 0 0, .bool false]) (by simp [results, Tryd.results62, go_sem]) rfl ⟨_, _, [], false, rfl, Or.inr ⟨rfl, rfl, HN.out⟩, by rw [Hx0.out]; exact OE2.out, by rw [Hx0.out]; exact bE.out⟩
      · have HR := Lib.hid (show BktRead t ss from ⟨hb.1 rfl, Or.inr ⟨HS0.out, by rw [← HTT.out]; exact HF.out.2⟩⟩)
        clear hb HN0
        go_wp2
        exact bodyPost_ret (v := .tuple #[.slice A ss.length k, .bool true]) (by simp [results, Tryd.results62, go_sem]) rfl ⟨A, k, ss, true, rfl, Or.inl ⟨rfl, HR.out⟩, by rw [Hx0.out]; exact HO4.out, by rw [Hx0.out]; exact hB4⟩

theorem no_pieceB {t : ByteArray} {xs : List GBkt} (h0 : t.size = 0) (hn : xs ≠ []) : ¬ Pieces t 32 (xs.map bktT) := by
  rintro ⟨ps, last, e, h⟩
  have hl : t.data.toList = [] := List.length_eq_zero_iff.1 (by rw [Array.length_toList]; exact h0)
  rw [hl] at h
  have h2 := congrArg List.length h
  rw [List.length_append] at h2
  have h3 : last ∈ xs.map bktT := by rw [e]; simp
  obtain ⟨s, _, rfl⟩ := List.mem_map.1 h3
  have h4 : (bktT s).data.toList.length = (numT s.beg).data.toList.length + 1 + (aggT s.agg).data.toList.length := by simp [bktT, ByteArray.data_append]; omega
  simp at h2
  simp at h4
  omega

/-- what ReadBuckets answers -/
def BktCode (t : ByteArray) (xs : List GBkt) (cd : Int) : Prop := (65536 < t.size ∧ xs = [] ∧ cd = 2) ∨ (t.size ≤ 65536 ∧ BktRead t xs ∧ cd = 0) ∨ (t.size ≤ 65536 ∧ NoBkt t ∧ xs = [] ∧ cd = 3)

theorem bktRead_one {t : ByteArray} {xs ys : List GBkt} (h : BktRead t xs) (k : BktRead t ys) : xs = ys := by
  have fx : ∀ s ∈ xs, FitB s := fun s hs => ⟨small_fitI (bktP_small h.1 s hs).1, fun n hn => small_fitI (aggP_small (bktP_small h.1 s hs).2 n hn)⟩
  have fy : ∀ s ∈ ys, FitB s := fun s hs => ⟨small_fitI (bktP_small k.1 s hs).1, fun n hn => small_fitI (aggP_small (bktP_small k.1 s hs).2 n hn)⟩
  rcases h.2 with ⟨rfl, h0⟩ | ⟨hn, hp⟩ <;> rcases k.2 with ⟨rfl, k0⟩ | ⟨kn, kp⟩
  · rfl
  · exact absurd kp (no_pieceB h0 kn)
  · exact absurd hp (no_pieceB k0 hn)
  · obtain ⟨ps, last, e, hq⟩ := kp
    have hc : ∀ p ∈ ps ++ [last], (32 : UInt8) ∉ p.data.toList := by
      rw [← e]
      intro p hp
      obtain ⟨s, _, rfl⟩ := List.mem_map.1 hp
      exact bktT_blank s
    have := bkts_cut hp ⟨hq, fun p hp => hc p (by simp [hp]), hc last (by simp)⟩
    exact bkt_inj fx fy (by rw [← this, e])

theorem bktCode_one {t : ByteArray} {a b : List GBkt} {c d : Int} (h : BktCode t a c) (k : BktCode t b d) : a = b ∧ c = d := by
  rcases h with ⟨h, rfl, rfl⟩ | ⟨h, h1, rfl⟩ | ⟨h, h1, rfl, rfl⟩ <;> rcases k with ⟨k, rfl, rfl⟩ | ⟨k, k1, rfl⟩ | ⟨k, k1, rfl, rfl⟩
  · exact ⟨rfl, rfl⟩
  · omega
  · omega
  · omega
  · exact ⟨bktRead_one h1 k1, rfl⟩
  · exact absurd h1 (k1 _)
  · omega
  · exact absurd k1 (h1 _)
  · exact ⟨rfl, rfl⟩

theorem specReadBuckets_any (t : ByteArray) (w : World) (ht : t.size ≤ 2 ^ 63 - 1) : Calls Tryd.prog 32 #[.string t] w fun e w' => ∃ A k xs cd, e = .returned (.tuple #[.slice A xs.length k, .int .i64 cd]) ∧ BktCode t xs cd ∧ OwnSl GBkt.vals 7 87 w.heap.size w' (.slice A xs.length k) xs ∧ Below w.heap.size w w' := by
  cases hl : decide (65536 < (t.size : Int))
  · have hs : t.size ≤ 65536 := by simp at hl; omega
    go_enter Tryd.func32, Tryd.ntmps32
    go_wp2_with fail
    refine (toBuckets_any t w (by omega)).mono ?_
    rintro e w1 ⟨A, k, xs, b, rfl, hR, hO, hb1⟩
    rcases hR with ⟨rfl, hR⟩ | ⟨rfl, rfl, hN⟩
    · have HR := Lib.hid (show BktCode t xs 0 from Or.inr (Or.inl ⟨hs, hR, rfl⟩)); clear hR
      have HO := Lib.hid hO; clear hO
      go_wp2
      exact bodyPost_ret (v := .tuple #[.slice A xs.length k, .int .i64 0]) (by simp [results, Tryd.results32, go_sem]) rfl ⟨A, k, xs, 0, rfl, HR.out, HO.out, hb1⟩
    · have HR := Lib.hid (show BktCode t [] 3 from Or.inr (Or.inr ⟨hs, hN, rfl, rfl⟩)); clear hN
      have OE := Lib.hid (own_empty GBkt.vals 7 87 w1)
      have bE := Lib.hid (bal hb1 (.cells #[] 87))
      have sz : w.heap.size ≤ w1.heap.size := hb1.size
      have OE2 := Lib.hid (show OwnSl GBkt.vals 7 87 w.heap.size (w1.alloc (.cells #[] 87)) (.slice (some ⟨w1.heap.size, 0, none⟩) 0 0) [] from ⟨OE.out.1, by
        rcases OE.out.2 with h | ⟨g, cap, cur, e, hb, r⟩
        · exact Or.inl h
        · exact Or.inr ⟨g, cap, cur, e, Nat.le_trans sz hb, r⟩⟩)
      clear hO OE
      go_wp2
      exact bodyPost_ret (v := .tuple #[.slice (some ⟨w1.heap.size, 0, none⟩) 0 0, .int .i64 3]) (by simp [results, Tryd.results32, go_sem]) rfl ⟨_, _, [], 3, rfl, HR.out, OE2.out, bE.out⟩
  · have HR := Lib.hid (show BktCode t [] 2 from Or.inl ⟨by simp at hl; omega, rfl, rfl⟩)
    have OE := Lib.hid (own_empty GBkt.vals 7 87 w)
    go_enter Tryd.func32, Tryd.ntmps32
    go_wp2
    exact bodyPost_ret (v := .tuple #[.slice (some ⟨w.heap.size, 0, none⟩) 0 0, .int .i64 2]) (by simp [results, Tryd.results32, go_sem]) rfl ⟨_, _, [], 2, rfl, HR.out, OE.out, bal (Below.refl _ _) _⟩

end Go.Proofs.YtcocgocnffnkpaaDoor
