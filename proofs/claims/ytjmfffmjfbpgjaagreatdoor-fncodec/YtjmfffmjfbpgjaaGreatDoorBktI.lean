/-
  Contract of the program's scanner.bucket. Conditions: the library's table of powers of ten is as its text lays it, its two errors' variables hold errors, its MaxLen an int; a text's length.
-/
import Derived.Test.YtjmfffmjfbpgjaaGreatDoorSamI
import Derived.Test.YtjmfffmjfbpgjaaGreatDoorSpecRdB
import Derived.Test.YtjmfffmjfbpgjaaGreatDoorImplRd
import Derived.Lib.IndexMore
namespace Go.Proofs.YtjmfffmjfbpgjaaGreatDoor
open Go.ChangeShapes Go.WideShapes Go.ChangeAt Go.RowKit
set_option linter.unusedVariables false
set_option linter.unusedSimpArgs false

/-- empty, or a blank first -/
def AtBlank (R : List UInt8) : Prop := R = [] ∨ ∃ r, R = 32 :: r

theorem cut_blank (R : List UInt8) : ∃ R', R = (Lib.cut R [32]).1 ++ R' ∧ (32 : UInt8) ∉ (Lib.cut R [32]).1 ∧ AtBlank R' := by
  unfold Lib.cut
  rw [Lib.index_one]
  by_cases h : 0 ≤ Lib.indexByte R 32
  · rw [if_pos h]
    obtain ⟨i, hi⟩ := Int.eq_ofNat_of_zero_le h
    obtain ⟨h1, h2⟩ := Lib.indexByte_some hi
    obtain ⟨hil, hic⟩ := List.getElem?_eq_some_iff.1 h1
    simp only [hi, Int.toNat_natCast]
    refine ⟨R.drop i, (List.take_append_drop _ _).symm, fun hm => ?_, Or.inr ⟨R.drop (i + 1), by rw [List.drop_eq_getElem_cons hil, hic]⟩⟩
    obtain ⟨j, hj, e⟩ := List.mem_iff_getElem.1 hm
    rw [List.getElem_take] at e
    simp at hj
    exact h2 j (by omega) (by rw [List.getElem?_eq_getElem (by omega), e])
  · rw [if_neg h]
    have h1 : Lib.indexByte R 32 = -1 := by have := Lib.indexByte_ge R 32; omega
    refine ⟨[], by simp, fun hm => ?_, Or.inl rfl⟩
    obtain ⟨j, hj, e⟩ := List.mem_iff_getElem.1 hm
    exact Lib.indexByte_none h1 j (by rw [List.getElem?_eq_getElem hj, e])

theorem blank_max : ∀ {D N R1 R2 : List UInt8}, D ++ R1 = N ++ R2 → (32 : UInt8) ∉ D → (32 : UInt8) ∉ N → AtBlank R1 → AtBlank R2 → D = N ∧ R1 = R2
  | [], [], _, _, e, _, _, _, _ => ⟨rfl, e⟩
  | [], n :: N, R1, R2, e, _, hN, h1, _ => by
    rcases h1 with rfl | ⟨r, rfl⟩
    · simp at e
    · simp at e; exact absurd (by simp [e.1]) hN
  | d :: D, [], R1, R2, e, hD, _, _, h2 => by
    rcases h2 with rfl | ⟨r, rfl⟩
    · simp at e
    · simp at e; exact absurd (by simp [e.1]) hD
  | d :: D, n :: N, R1, R2, e, hD, hN, h1, h2 => by
    simp at e
    obtain ⟨rfl, e⟩ := e
    obtain ⟨e1, e2⟩ := blank_max e (fun h => hD (by simp [h])) (fun h => hN (by simp [h])) h1 h2
    exact ⟨by rw [e1], e2⟩

def bktL (s : GBkt) : List UInt8 := (bktT s).data.toList

theorem bktL_eq (s : GBkt) : bktL s = (numT s.beg).data.toList ++ (58 :: (aggT s.agg).data.toList) := by simp [bktL, bktT, ByteArray.data_append]

/-- what bucket does, none having been wrong ahead -/
def Bucketed (R : List UInt8) (a : Nat) (s : GBkt) (a' : Nat) (x' : Value) : Prop := (x' = .nilIface ∧ FitB s ∧ ∃ R', R = bktL s ++ R' ∧ a' = a + (bktL s).length ∧ AtBlank R') ∨ (Bad x' ∧ ∀ s R', Small s.beg → AggP s.agg → AtBlank R' → R ≠ bktL s ++ R')

theorem not_colon : ¬ numC 58 := by
  intro h
  rcases h with h | h
  · unfold isDig at h; exact absurd h.2 (by decide)
  · exact absurd h (by decide)

theorem bucketed_of {R D R1 R2 D2 R3 : List UInt8} {a a2 : Nat} {n cd : Int} {g : GAgg} {x1 x2 x3 : Value} {q : ByteArray} (h1 : Numbered R a .nilIface n D R1 x1) (hm : (x2 = x1 ∧ R1 = 58 :: R2 ∧ a2 = a + D.length + 1) ∨ (Bad x2 ∧ ∀ R', R1 ≠ 58 :: R')) (hR : R2 = D2 ++ R3) (hD : (32 : UInt8) ∉ D2) (hB : AtBlank R3) (hq : q.data.toList = D2) (hc : AggCode q g cd) (hqs : q.size ≤ 65536) (hx : (cd = 0 → x3 = x2) ∧ (cd ≠ 0 → Bad x3)) : Bucketed R a ⟨n, g⟩ (a2 + D2.length) x3 := by
  obtain ⟨e1, c1, s1, k1⟩ := h1
  have hcd : (cd = 0 ∧ AggRead q g) ∨ (cd = 3 ∧ NoAgg q) := by
    rcases hc with ⟨h, _⟩ | ⟨_, h, e⟩ | ⟨_, h, _, e⟩
    · omega
    · exact Or.inl ⟨e, h⟩
    · exact Or.inr ⟨e, h⟩
  by_cases hx3 : x3 = .nilIface
  · subst hx3
    rcases hcd with ⟨rfl, ha⟩ | ⟨rfl, _⟩
    · have e3 := hx.1 rfl
      rcases hm with ⟨rfl, rfl, rfl⟩ | ⟨b, _⟩
      · rcases k1 with ⟨_, d1, f1⟩ | ⟨b, _⟩
        · have eq := nums_text ha.2 (aggT_nums g)
          refine Or.inl ⟨rfl, ⟨f1, fun m hm => small_fitI (aggP_small ha.1 m hm)⟩, R3, ?_, ?_, hB⟩
          · rw [e1, hR, bktL_eq, d1, ← hq, eq]
            simp
          · rw [bktL_eq, ← d1, ← hq, eq]
            simp
            omega
        · rw [← e3] at b; exact absurd b bad_nil
      · rw [← e3] at b; exact absurd b bad_nil
    · exact absurd (hx.2 (by decide)) bad_nil
  · have hb3 : Bad x3 := by
      rcases hcd with ⟨rfl, _⟩ | ⟨rfl, _⟩
      · have e3 := hx.1 rfl
        rcases hm with ⟨e', _⟩ | ⟨b, _⟩
        · rcases k1 with ⟨e'', _⟩ | ⟨b, _⟩
          · exact absurd (by rw [e3, e', e'']) hx3
          · rw [e3, e']; exact b
        · rw [e3]; exact b
      · exact hx.2 (by decide)
    refine Or.inr ⟨hb3, fun s R' sb sa hr e => ?_⟩
    rw [bktL_eq, e1] at e
    obtain ⟨g1, g2⟩ := run_max (R2 := 58 :: ((aggT s.agg).data.toList ++ R')) (by simpa using e) c1 (num_bytes s.beg) s1 (fun b r e => by injection e with e _; subst e; exact not_colon)
    rcases k1 with ⟨q1, _⟩ | ⟨_, b⟩
    · rcases hm with ⟨q2, r1, _⟩ | ⟨_, b⟩
      · rw [r1] at g2
        injection g2 with _ g2
        rw [hR] at g2
        obtain ⟨g3, _⟩ := blank_max g2 hD (agg_bytes s.agg 32 (Or.inl (by decide)) (by decide)) hB hr
        rcases hcd with ⟨rfl, _⟩ | ⟨_, hno⟩
        · exact hx3 (by rw [hx.1 rfl, q2, q1])
        · exact hno s.agg ⟨sa, by rw [ba_eq (hq.trans g3)]; exact aggT_nums s.agg⟩
      · exact b _ g2
    · exact b s.beg sb g1

/-- a bucket written into a block -/
def set7 (w : World) (r : Nat) (s : GBkt) : World := (((((((w.setCell ⟨r, 0, none⟩ (.int .i64 s.beg)).setCell ⟨r, 1, none⟩ (.int .i64 s.agg.cnt)).setCell ⟨r, 2, none⟩ (.int .i64 s.agg.sum)).setCell ⟨r, 3, none⟩ (.int .i64 s.agg.mn)).setCell ⟨r, 4, none⟩ (.int .i64 s.agg.mx)).setCell ⟨r, 5, none⟩ (.int .i64 s.agg.fst)).setCell ⟨r, 6, none⟩ (.int .i64 s.agg.lst))

theorem scan_set7 {w : World} {g r a : Nat} {t : ByteArray} {x : Value} (h : Scan w g t a x) (hne : r ≠ g) (s : GBkt) : Scan (set7 w r s) g t a x := by
  have f : ∀ (W : World) (i : Nat) (v : Value) (k : Nat), (W.setCell ⟨r, i, none⟩ v).cell? ⟨g, k, none⟩ = W.cell? ⟨g, k, none⟩ := fun W i v k => World.cell?_setCell_other W ⟨r, i, none⟩ ⟨g, k, none⟩ v (fun e => hne (by injection e))
  unfold set7
  exact ⟨by simp only [f]; exact h.c0, by simp only [f]; exact h.c1, by simp only [f]; exact h.c2, fun i => by simp only [frozen_setCell]; exact h.fz i, by simp only [size_setCell]; exact h.lt⟩

theorem grown_set7 {a w : World} {row : Option Nat} {r : Nat} (h : a.grownBy w row) (hr : a.heap.size ≤ r) (s : GBkt) : a.grownBy (set7 w r s) row := by
  unfold set7
  exact grown_setCell (grown_setCell (grown_setCell (grown_setCell (grown_setCell (grown_setCell (grown_setCell h _ (Or.inr hr) _) _ (Or.inr hr) _) _ (Or.inr hr) _) _ (Or.inr hr) _) _ (Or.inr hr) _) _ (Or.inr hr) _) _ (Or.inr hr) _

/-- a bucket's variable, of zeros, in block r -/
def ZeroB (w : World) (r : Nat) : Prop := (∀ i, i < 7 → w.cell? ⟨r, i, none⟩ = some (.int .i64 0)) ∧ (∀ i, w.frozen? ⟨r, i, none⟩ = false) ∧ r < w.heap.size

theorem ZeroB.new (w : World) (e : TypeId) : ZeroB (w.alloc (.cells #[.int .i64 0, .int .i64 0, .int .i64 0, .int .i64 0, .int .i64 0, .int .i64 0, .int .i64 0] e)) w.heap.size := ⟨fun i hi => by
  rw [World.cell?_alloc_new]
  match i, hi with
  | 0, _ => rfl
  | 1, _ => rfl
  | 2, _ => rfl
  | 3, _ => rfl
  | 4, _ => rfl
  | 5, _ => rfl
  | 6, _ => rfl, free_alloc w _ e 0 w.heap.size rfl, by simp⟩

theorem ZeroB.grown {w w' : World} {r g : Nat} (h : ZeroB w r) (hg : w.grownBy w' (some g)) (hne : r ≠ g) : ZeroB w' r := by
  have hblk := hg.block r h.2.2 (fun e => hne (by injection e))
  refine ⟨fun i hi => (World.cell?_of_block (a := ⟨r, i, none⟩) hblk).trans (h.1 i hi), fun i => ?_, Nat.lt_of_lt_of_le h.2.2 hg.size⟩
  have := h.2.1 i
  unfold World.frozen? at this ⊢
  rw [hblk]
  exact this

set_option maxRecDepth 100000 in
set_option maxHeartbeats 1000000 in
theorem bucket_g (g a : Nat) (t : ByteArray) (x : Value) (U R : List UInt8) (w : World) (h : Scan w g t a x) (hx : ErrV x) (hp : Parted t a U R) (hs : t.size ≤ 65536) (hEP : ∀ w', w.grownBy w' (some g) → Errs w' ∧ Pow w' ∧ MaxL w') :
    Calls Tryz.prog 59 #[.pointer (some ⟨g, 0, none⟩)] w fun e w' => ∃ (s : GBkt) (a' : Nat) (x' : Value), e = .returned (.agg #[.int .i64 s.beg, .int .i64 s.agg.cnt, .int .i64 s.agg.sum, .int .i64 s.agg.mn, .int .i64 s.agg.mx, .int .i64 s.agg.fst, .int .i64 s.agg.lst]) ∧ Scan w' g t a' x' ∧ (x = .nilIface → Bucketed R a s a' x') ∧ (Bad x → Bad x') ∧ a' ≤ t.size ∧ w.grownBy w' (some g) := by
  have H := Lib.hid h
  have HX0 := Lib.hid hx; clear hx
  have HP := Lib.hid hp
  have HEP := Lib.hid hEP; clear hEP hp
  have hlt := h.lt
  clear h
  go_enter Tryz.func59, Tryz.ntmps59
  go_wp2_with fail
  have hZ := ZeroB.new w 101
  have hb0 : Below w.heap.size w (w.alloc (.cells #[.int .i64 0, .int .i64 0, .int .i64 0, .int .i64 0, .int .i64 0, .int .i64 0, .int .i64 0] 101)) := bal (Below.refl _ _) _
  generalize w.alloc (.cells #[.int .i64 0, .int .i64 0, .int .i64 0, .int .i64 0, .int .i64 0, .int .i64 0, .int .i64 0] 101) = w0 at *
  have g0 : w.grownBy w0 (some g) := grown_of_below hb0 _
  have hS0 := H.out.below hb0
  have hrg : w.heap.size ≠ g := by omega
  have HZ := Lib.hid hZ
  have HG0 := Lib.hid g0
  clear hZ
  refine (number_g g a t x U R w0 hS0 HX0.out HP.out (by omega) (fun w' h => ⟨(HEP.out w' (grown_trans HG0.out h)).1, (HEP.out w' (grown_trans HG0.out h)).2.1⟩)).mono ?_
  rintro e w1 ⟨n, D, R1, x1, rfl, hS1, hN1, hg1⟩
  have HS1 := Lib.hid hS1
  have HN1 := Lib.hid hN1
  have HG1 := Lib.hid (grown_trans HG0.out hg1)
  have HZ1 := Lib.hid (HZ.out.grown hg1 hrg)
  have HP1 := Lib.hid (show Parted t (a + D.length) (U ++ D) R1 from by have := HP.out; rw [hN1.1] at this; exact this.on)
  have HX1 := Lib.hid (show ErrV x1 from by rcases hN1.2.2.2 with ⟨e, _⟩ | ⟨b, _⟩; (· rw [e]; exact HX0.out); (· exact Or.inr b))
  have HB1 := Lib.hid (show Bad x → Bad x1 from fun hb => by rcases hN1.2.2.2 with ⟨e, _⟩ | ⟨b, _⟩; (· rw [e]; exact hb); (· exact b))
  clear hS0 hS1 hN1 hg1 hb0 g0 HZ HG0
  obtain ⟨a1, ha1⟩ : ∃ a1, a1 = a + D.length := ⟨_, rfl⟩
  rw [← ha1] at HS1 HP1
  have HA1 := Lib.hid ha1; clear ha1
  go_wp2_with fail
  refine (mark_g g a1 t ⟨#[58]⟩ x1 (U ++ D) R1 w1 HS1.out HX1.out HP1.out (by omega) (by decide)).mono ?_
  rintro e w2 ⟨rfl, a2, x2, hS2, hM2, hg2⟩
  have HS2 := Lib.hid hS2
  have HG2 := Lib.hid (grown_trans HG1.out hg2)
  have HZ2 := Lib.hid (HZ1.out.grown hg2 hrg)
  have hM3 : ∃ U2 R2, Parted t a2 U2 R2 ∧ ((x2 = x1 ∧ R1 = 58 :: R2 ∧ a2 = a + D.length + 1) ∨ (Bad x2 ∧ ∀ R', R1 ≠ 58 :: R')) := by
    rcases hM2 with ⟨e1, e2, R', e3⟩ | ⟨b, e2, hn⟩
    · have e3' : R1 = [58] ++ R' := e3
      refine ⟨U ++ D ++ [58], R', ?_, Or.inl ⟨e1, e3, by rw [e2, HA1.out]; rfl⟩⟩
      have := HP1.out
      rw [e3'] at this
      rw [e2]
      exact this.on
    · exact ⟨U ++ D, R1, by rw [e2]; exact HP1.out, Or.inr ⟨b, fun R' e => hn R' e⟩⟩
  obtain ⟨U2, R2, hP2, hM3⟩ := hM3
  have HP2 := Lib.hid hP2
  have HM3 := Lib.hid hM3
  have HX2 := Lib.hid (show ErrV x2 from by rcases hM3 with ⟨e, _⟩ | ⟨b, _⟩; (· rw [e]; exact HX1.out); (· exact Or.inr b))
  have HB2 := Lib.hid (show Bad x → Bad x2 from fun hb => by rcases hM3 with ⟨e, _⟩ | ⟨b, _⟩; (· rw [e]; exact HB1.out hb); (· exact b))
  have hrest := rest_any g a2 t x2 w2 HS2.out hP2.le (by omega)
  have hX := hP2.rest
  have hle2 := hP2.le
  have hsz2 := hP2.size
  clear hS2 hM2 hg2 hP2 hM3 HS1 HG1 HZ1 HP1 HX1 HA1
  have hXs : (t.extract a2 t.size).size ≤ 65536 := by rw [ByteArray.size_extract]; omega
  generalize t.extract a2 t.size = X at *
  have HRest := Lib.hid hrest; clear hrest
  obtain ⟨R3, hc1, hc2, hc3⟩ := cut_blank R2
  obtain ⟨D2, hD2⟩ : ∃ D2, D2 = (Lib.cut R2 [32]).1 := ⟨_, rfl⟩
  rw [← hD2] at hc1 hc2
  obtain ⟨q, hq⟩ : ∃ q : ByteArray, q = ⟨D2.toArray⟩ := ⟨_, rfl⟩
  have hqD : q.data.toList = D2 := by rw [hq]
  have hqs : q.size = D2.length := by rw [hq]; simp [ByteArray.size]
  have hDl : D2.length ≤ R2.length := by rw [hc1]; simp
  have HCut := Lib.hid (show (⟨(Lib.cut X.data.toList (⟨#[32]⟩ : ByteArray).data.toList).1.toArray⟩ : ByteArray) = q from by rw [hX, hq, hD2])
  have HC1 := Lib.hid hc1; have HC2 := Lib.hid hc2; have HC3 := Lib.hid hc3; have HQD := Lib.hid hqD; have HQS := Lib.hid hqs
  have HSZ := Lib.hid hsz2; have HDL := Lib.hid hDl
  clear hc1 hc2 hc3 hD2 hq hqD hqs hX hsz2 hDl
  go_wp2_with fail
  refine HRest.out.mono ?_
  rintro e w3 ⟨rfl, hb3⟩
  have hgs2 := HS2.out.lt
  have HS3 := Lib.hid (HS2.out.below hb3)
  have HG3 := Lib.hid (grown_trans HG2.out (grown_of_below hb3 _))
  have HZ3 := Lib.hid (HZ2.out.grown (grown_of_below hb3 (some g)) hrg)
  clear HRest HS2 HG2 HZ2 hb3
  obtain ⟨ml, hml⟩ := (HEP.out w3 HG3.out).2.2
  have hcut := sh_strings_Cut X ⟨#[32]⟩ ml w3 (by omega) hml
  rw [HCut.out] at hcut
  have HCC := Lib.hid hcut; clear hcut hml
  go_wp2_with fail
  refine HCC.out.mono ?_
  rintro e w4 ⟨rfl, m4, rfl⟩
  have hb4 : Below w3.heap.size w3 (w3.drewN m4) := bdrewN (Below.refl _ _) _
  generalize w3.drewN m4 = w4 at *
  have HS4 := Lib.hid (HS3.out.below hb4)
  have HG4 := Lib.hid (grown_trans HG3.out (grown_of_below hb4 _))
  have HZ4 := Lib.hid (HZ3.out.grown (grown_of_below hb4 (some g)) hrg)
  generalize (⟨(Lib.cut X.data.toList (⟨#[32]⟩ : ByteArray).data.toList).2.1.toArray⟩ : ByteArray) = X2 at *
  generalize (Lib.cut X.data.toList (⟨#[32]⟩ : ByteArray).data.toList).2.2 = X3 at *
  clear HCC HCut HS3 HG3 HZ3 hb4
  have hq6 : q.size ≤ 65536 := by have := HQS.out; have := HDL.out; have := HSZ.out; omega
  go_wp2_with fail
  refine (readAgg_any q w4 (by omega) (HEP.out w4 HG4.out).1 (HEP.out w4 HG4.out).2.1 (HEP.out w4 HG4.out).2.2).mono ?_
  rintro e w5 ⟨ag, cd, rfl, hag, hb5⟩
  have HAg := Lib.hid hag; clear hag
  have HS5 := Lib.hid (HS4.out.below hb5)
  have HG5 := Lib.hid (grown_trans HG4.out (grown_of_below hb5 _))
  have HZ5 := Lib.hid (HZ4.out.grown (grown_of_below hb5 (some g)) hrg)
  clear HS4 HG4 HZ4 hb5
  have hb6 : Below w5.heap.size w5 (w5.alloc (.cells #[.int .i64 ag.cnt, .int .i64 ag.sum, .int .i64 ag.mn, .int .i64 ag.mx, .int .i64 ag.fst, .int .i64 ag.lst] 99)) := bal (Below.refl _ _) _
  have HS6 := Lib.hid (HS5.out.below hb6)
  have HG6 := Lib.hid (grown_trans HG5.out (grown_of_below hb6 _))
  have HZ6 := Lib.hid (HZ5.out.grown (grown_of_below hb6 (some g)) hrg)
  have HY6 := Lib.hid (Six.new w5 ag 99)
  have hy6 : w5.heap.size < (w5.alloc (.cells #[.int .i64 ag.cnt, .int .i64 ag.sum, .int .i64 ag.mn, .int .i64 ag.mx, .int .i64 ag.fst, .int .i64 ag.lst] 99)).heap.size := by simp
  have hyg : w5.heap.size ≠ g := by have := HS5.out.lt; omega
  have hle8 : a2 + q.size ≤ t.size := by have := HQS.out; have := HDL.out; have := HSZ.out; omega
  obtain ⟨r, hr⟩ : ∃ r, r = w.heap.size := ⟨_, rfl⟩
  have HR0 := Lib.hid (Nat.le_of_eq hr.symm)
  have HBk0 := Lib.hid (show ∀ x3, (cd = 0 → x3 = x2) ∧ (cd ≠ 0 → Bad x3) → x = .nilIface → Bucketed R a ⟨n, ag⟩ (a2 + q.size) x3 from fun x3 h e => by
    have h1 := HN1.out
    rw [e] at h1
    rw [HQS.out]
    exact bucketed_of h1 HM3.out HC1.out HC2.out HC3.out HQD.out HAg.out hq6 h)
  by_cases hcd : cd = 0
  · subst hcd
    have HBk := Lib.hid (HBk0.out x2 ⟨fun _ => rfl, fun h => absurd rfl h⟩)
    have HBb := HB2
    have HSf := HS5; have HGf := HG5; have HZf := HZ5
    clear HBk0 HAg HS5 HG5 HZ5 HS6 HG6 HZ6 HY6 hb6 HM3 HN1 HP2 HC1 HC2 HC3 HQD hy6
    rw [← hr] at HZf hrg ⊢
    clear hr
    have HS8 := Lib.hid ((scan_set7 (HSf.out.go (a2 + q.size)) hrg ⟨n, ag⟩).below (bal (Below.refl _ _) (.cells #[.int .i64 ag.cnt, .int .i64 ag.sum, .int .i64 ag.mn, .int .i64 ag.mx, .int .i64 ag.fst, .int .i64 ag.lst] 99)))
    have HG8 := Lib.hid (grown_trans (grown_set7 (grown_setCell HGf.out ⟨g, 1, none⟩ (Or.inl rfl) (.int .i64 ((a2 + q.size : Nat) : Int))) HR0.out ⟨n, ag⟩) (grown_of_below (bal (Below.refl _ _) (.cells #[.int .i64 ag.cnt, .int .i64 ag.sum, .int .i64 ag.mn, .int .i64 ag.mx, .int .i64 ag.fst, .int .i64 ag.lst] 99)) (some g)))
    have f1 := HSf.out.fz 1
    have c1 := HSf.out.c1
    have gl := HSf.out.lt
    have wa : IntKind.i64.wrap ((a2 : Int) + (q.size : Int)) = ((a2 + q.size : Nat) : Int) := by rw [IntKind.wrap_i64]; omega
    have hZf := HZf.out
    have rl := hZf.2.2
    have z0 := hZf.1 0 (by omega)
    have v0 := hZf.2.1 0
    have z1 := hZf.1 1 (by omega)
    have v1 := hZf.2.1 1
    have z2 := hZf.1 2 (by omega)
    have v2 := hZf.2.1 2
    have z3 := hZf.1 3 (by omega)
    have v3 := hZf.2.1 3
    have z4 := hZf.1 4 (by omega)
    have v4 := hZf.2.1 4
    have z5 := hZf.1 5 (by omega)
    have v5 := hZf.2.1 5
    have z6 := hZf.1 6 (by omega)
    have v6 := hZf.2.1 6
    clear hZf HGf HZf HSf
    go_wp2
    refine bodyPost_ret (v := .agg #[.int .i64 n, .int .i64 ag.cnt, .int .i64 ag.sum, .int .i64 ag.mn, .int .i64 ag.mx, .int .i64 ag.fst, .int .i64 ag.lst]) (by simp [results, Tryz.results59, go_sem, *]) rfl ⟨⟨n, ag⟩, a2 + q.size, x2, rfl, ?_, HBk.out, HBb.out, hle8, ?_⟩
    · exact HS8.out
    · exact HG8.out
  · have dn : (cd != 0) = true := by simpa using hcd
    have HBk1 := Lib.hid (show ∀ y, Bad y → x = .nilIface → Bucketed R a ⟨n, ag⟩ (a2 + q.size) y from fun y hy => HBk0.out y ⟨fun h => absurd h hcd, fun _ => hy⟩)
    clear HBk0 HAg HS5 HG5 HZ5 HM3 HN1 HP2 HC1 HC2 HC3 HQD hcd
    rw [← hr] at HZ6 hrg ⊢
    clear hr
    go_wp2_with fail
    generalize w5.alloc (.cells #[.int .i64 ag.cnt, .int .i64 ag.sum, .int .i64 ag.mn, .int .i64 ag.mx, .int .i64 ag.fst, .int .i64 ag.lst] 99) = w6 at *
    generalize w5.heap.size = y at *
    refine (fail_g g a2 t _ x2 w6 HS6.out HX2.out).mono ?_
    rintro e w7 ⟨rfl, bx, hbx, hS7, hg7⟩
    have HBk := Lib.hid (HBk1.out bx hbx)
    have HBb := Lib.hid (show Bad x → Bad bx from fun _ => hbx)
    have HSf := Lib.hid hS7
    have HGf := Lib.hid (grown_trans HG6.out hg7)
    have HZf := Lib.hid (HZ6.out.grown hg7 hrg)
    have hY7 : Six w7 y ag := by
      have hblk := hg7.block y hy6 (fun e => hyg (by injection e))
      obtain ⟨s0, s1, s2, s3, s4, s5⟩ := HY6.out
      exact ⟨(World.cell?_of_block (a := ⟨y, 0, none⟩) hblk).trans s0, (World.cell?_of_block (a := ⟨y, 1, none⟩) hblk).trans s1, (World.cell?_of_block (a := ⟨y, 2, none⟩) hblk).trans s2, (World.cell?_of_block (a := ⟨y, 3, none⟩) hblk).trans s3, (World.cell?_of_block (a := ⟨y, 4, none⟩) hblk).trans s4, (World.cell?_of_block (a := ⟨y, 5, none⟩) hblk).trans s5⟩
    have HS8 := Lib.hid (scan_set7 (HSf.out.go (a2 + q.size)) hrg ⟨n, ag⟩)
    have HG8 := Lib.hid (grown_set7 (grown_setCell HGf.out ⟨g, 1, none⟩ (Or.inl rfl) (.int .i64 ((a2 + q.size : Nat) : Int))) HR0.out ⟨n, ag⟩)
    obtain ⟨s0, s1, s2, s3, s4, s5⟩ : (w7.cell? ⟨y, 0, none⟩ = some (.int .i64 ag.cnt) ∧ w7.cell? ⟨y, 1, none⟩ = some (.int .i64 ag.sum) ∧ w7.cell? ⟨y, 2, none⟩ = some (.int .i64 ag.mn) ∧ w7.cell? ⟨y, 3, none⟩ = some (.int .i64 ag.mx) ∧ w7.cell? ⟨y, 4, none⟩ = some (.int .i64 ag.fst) ∧ w7.cell? ⟨y, 5, none⟩ = some (.int .i64 ag.lst)) := hY7
    have f1 := HSf.out.fz 1
    have c1 := HSf.out.c1
    have gl := HSf.out.lt
    have wa : IntKind.i64.wrap ((a2 : Int) + (q.size : Int)) = ((a2 + q.size : Nat) : Int) := by rw [IntKind.wrap_i64]; omega
    have hZf := HZf.out
    have rl := hZf.2.2
    have z0 := hZf.1 0 (by omega)
    have v0 := hZf.2.1 0
    have z1 := hZf.1 1 (by omega)
    have v1 := hZf.2.1 1
    have z2 := hZf.1 2 (by omega)
    have v2 := hZf.2.1 2
    have z3 := hZf.1 3 (by omega)
    have v3 := hZf.2.1 3
    have z4 := hZf.1 4 (by omega)
    have v4 := hZf.2.1 4
    have z5 := hZf.1 5 (by omega)
    have v5 := hZf.2.1 5
    have z6 := hZf.1 6 (by omega)
    have v6 := hZf.2.1 6
    clear hZf HGf HZf HSf HS6 HG6 HZ6 HY6 hS7 hg7 hbx HBk1 hb6
    go_wp2
    refine bodyPost_ret (v := .agg #[.int .i64 n, .int .i64 ag.cnt, .int .i64 ag.sum, .int .i64 ag.mn, .int .i64 ag.mx, .int .i64 ag.fst, .int .i64 ag.lst]) (by simp [results, Tryz.results59, go_sem, *]) rfl ⟨⟨n, ag⟩, a2 + q.size, bx, rfl, ?_, HBk.out, HBb.out, hle8, ?_⟩
    · exact HS8.out
    · exact HG8.out

end Go.Proofs.YtjmfffmjfbpgjaaGreatDoor
