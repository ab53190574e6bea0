/-
  Several texts as one: contracts that the law leans on; each part says what it proves and its conditions.
-/
import Derived.Test.YtpackpocnonpiaaGreatDoorSpecRd
import Derived.Test.YtpackpocnonpiaaGreatDoorM3
import Derived.Test.YtpackpocnonpiaaGreatDoorM2
import Derived.Test.YtpackpocnonpiaaGreatDoorM1
import Derived.Lib.IndexMore
import Derived.Test.YtpackpocnonpiaaGreatDoorBktImpl
import Derived.Test.YtpackpocnonpiaaGreatDoorOpenSl
import Derived.Laws.IdiomArrays
import Derived.Test.YtpackpocnonpiaaGreatDoorTxt
import Derived.ChangeVars
import Derived.SevenTiedAt
import Derived.LaidOnce
import Derived.Lib.LaidTab
import Derived.Test.YtpackpocnonpiaaGreatDoorTie
import Derived.WalkSmall
import Derived.Deep.DeepLaidRun
import Derived.LaidLaws
import Derived.ShapedOpen

/- Contracts of the program's readNumbers (six places) and ReadAgg: just the text of a right aggregate is read. Conditions: the library's table of powers of ten is as its text lays it, its two errors' variables hold errors, its MaxLen an int; a text's length. -/
namespace Go.Proofs.YtpackpocnonpiaaGreatDoor
open Go.ChangeShapes Go.WideShapes Go.ChangeAt Go.RowKit
set_option linter.unusedVariables false
set_option linter.unusedSimpArgs false

/-- the library's MaxLen holds an int -/
def MaxL (w : World) : Prop := ∃ m, w.cell? ⟨2, 0, none⟩ = some (.int .i64 m)

theorem MaxL.below {w w' : World} {B : Nat} (h : MaxL w) (hb : Below B w w') (hB : w.heap.size ≤ B) : MaxL w' := by
  obtain ⟨m, h⟩ := h
  exact ⟨m, (hb.cell (Nat.lt_of_lt_of_le (World.block_lt_of_cell? w _ h) hB)).trans h⟩

/-- an aggregate with its j-th number written anew -/
def GAgg.setN (a : GAgg) (j : Nat) (m : Int) : GAgg := match j with
  | 0 => ⟨m, a.sum, a.mn, a.mx, a.fst, a.lst⟩
  | 1 => ⟨a.cnt, m, a.mn, a.mx, a.fst, a.lst⟩
  | 2 => ⟨a.cnt, a.sum, m, a.mx, a.fst, a.lst⟩
  | 3 => ⟨a.cnt, a.sum, a.mn, m, a.fst, a.lst⟩
  | 4 => ⟨a.cnt, a.sum, a.mn, a.mx, m, a.lst⟩
  | _ => ⟨a.cnt, a.sum, a.mn, a.mx, a.fst, m⟩

theorem setN_nums (a : GAgg) (j : Nat) (m : Int) (h : j < 6) : (a.setN j m).nums.take (j + 1) = a.nums.take j ++ [m] := by
  match j, h with
  | 0, _ => rfl
  | 1, _ => rfl
  | 2, _ => rfl
  | 3, _ => rfl
  | 4, _ => rfl
  | 5, _ => rfl

theorem six_setN {w : World} {g : Nat} {a : GAgg} (h : Six w g a) (j : Nat) (m : Int) (hj : j < 6) : Six (w.setCell ⟨g, j, none⟩ (.int .i64 m)) g (a.setN j m) := by
  obtain ⟨h0, h1, h2, h3, h4, h5⟩ := h
  match j, hj with
  | 0, _ => exact ⟨cset_eq w g 0 _ h0, (cset_ne w g 0 1 _ (by decide)).trans h1, (cset_ne w g 0 2 _ (by decide)).trans h2, (cset_ne w g 0 3 _ (by decide)).trans h3, (cset_ne w g 0 4 _ (by decide)).trans h4, (cset_ne w g 0 5 _ (by decide)).trans h5⟩
  | 1, _ => exact ⟨(cset_ne w g 1 0 _ (by decide)).trans h0, cset_eq w g 1 _ h1, (cset_ne w g 1 2 _ (by decide)).trans h2, (cset_ne w g 1 3 _ (by decide)).trans h3, (cset_ne w g 1 4 _ (by decide)).trans h4, (cset_ne w g 1 5 _ (by decide)).trans h5⟩
  | 2, _ => exact ⟨(cset_ne w g 2 0 _ (by decide)).trans h0, (cset_ne w g 2 1 _ (by decide)).trans h1, cset_eq w g 2 _ h2, (cset_ne w g 2 3 _ (by decide)).trans h3, (cset_ne w g 2 4 _ (by decide)).trans h4, (cset_ne w g 2 5 _ (by decide)).trans h5⟩
  | 3, _ => exact ⟨(cset_ne w g 3 0 _ (by decide)).trans h0, (cset_ne w g 3 1 _ (by decide)).trans h1, (cset_ne w g 3 2 _ (by decide)).trans h2, cset_eq w g 3 _ h3, (cset_ne w g 3 4 _ (by decide)).trans h4, (cset_ne w g 3 5 _ (by decide)).trans h5⟩
  | 4, _ => exact ⟨(cset_ne w g 4 0 _ (by decide)).trans h0, (cset_ne w g 4 1 _ (by decide)).trans h1, (cset_ne w g 4 2 _ (by decide)).trans h2, (cset_ne w g 4 3 _ (by decide)).trans h3, cset_eq w g 4 _ h4, (cset_ne w g 4 5 _ (by decide)).trans h5⟩
  | 5, _ => exact ⟨(cset_ne w g 5 0 _ (by decide)).trans h0, (cset_ne w g 5 1 _ (by decide)).trans h1, (cset_ne w g 5 2 _ (by decide)).trans h2, (cset_ne w g 5 3 _ (by decide)).trans h3, (cset_ne w g 5 4 _ (by decide)).trans h4, cset_eq w g 5 _ h5⟩

theorem six_at {w : World} {g : Nat} {a : GAgg} (h : Six w g a) (j : Nat) (hj : j < 6) : ∃ v, w.cell? ⟨g, j, none⟩ = some v := by
  obtain ⟨h0, h1, h2, h3, h4, h5⟩ := h
  match j, hj with
  | 0, _ => exact ⟨_, h0⟩
  | 1, _ => exact ⟨_, h1⟩
  | 2, _ => exact ⟨_, h2⟩
  | 3, _ => exact ⟨_, h3⟩
  | 4, _ => exact ⟨_, h4⟩
  | 5, _ => exact ⟨_, h5⟩

/-- six places: pointers to the cells of block g, in block q -/
def Places (w : World) (q g : Nat) : Prop := ∀ i, i < 6 → w.cell? ⟨q, i, none⟩ = some (.pointer (some ⟨g, i, none⟩))

theorem piece_len {t : ByteArray} {c : UInt8} {xs : List ByteArray} (h : Pieces t c xs) : ∀ p ∈ xs, p.size ≤ t.size := by
  obtain ⟨ps, last, rfl, h⟩ := h
  have hs : t.size = t.data.toList.length := by rw [Array.length_toList]; rfl
  have key : ∀ (qs : List ByteArray), ∀ p ∈ qs, p.data.toList.length ≤ (flatC c qs).length := by
    intro qs
    induction qs with
    | nil => simp
    | cons q qs ih =>
      have e : (flatC c (q :: qs)).length = q.data.toList.length + 1 + (flatC c qs).length := by simp [flatC]; omega
      rw [e]
      intro p hp
      rcases List.mem_cons.1 hp with rfl | hp
      · omega
      · have := ih p hp; omega
  have e := congrArg List.length h
  rw [List.length_append, ← hs] at e
  intro p hp
  have hp' : p.size = p.data.toList.length := by rw [Array.length_toList]; rfl
  rcases List.mem_append.1 hp with hp | hp
  · have := key ps p hp; omega
  · simp at hp; subst hp; omega

theorem cells_part (w : World) (L : List ByteArray) (N : Nat) (T : TypeId) (j : Nat) (h : j < L.length) : (w.alloc (.cells (Lib.cellsOf L N) T)).cell? ⟨w.heap.size, j, none⟩ = some (.string L[j]) := by
  rw [World.cell?_alloc_new]
  unfold Lib.cellsOf
  rw [List.getElem?_toArray, List.getElem?_append_left (by simpa using h), List.getElem?_map, List.getElem?_eq_getElem h]
  rfl

/-- what readNumbers does -/
def Filled (t : ByteArray) (g : Nat) (w : World) (e : Ending) (w' : World) : Prop := ∃ b, e = .returned (.bool b) ∧ w.grownBy w' (some g) ∧ ∃ a, Six w' g a ∧ ((b = true ∧ NumsOf t 44 a.nums ∧ ∀ n ∈ a.nums, FitI n) ∨ (b = false ∧ ∀ ms, ms.length = 6 → (∀ m ∈ ms, Small m) → ¬ NumsOf t 44 ms))

theorem grown_far {w w' : World} {g : Nat} (h : w.grownBy w' (some g)) {p : Addr} (hp : p.block < w.heap.size) (hg : p.block ≠ g) : w'.cell? p = w.cell? p :=
  World.cell?_of_block (h.block p.block hp (fun e => hg (by injection e)))

theorem errs_grown {w w' : World} {g : Nat} (h : Errs w) (hg : w.grownBy w' (some g)) (n1 : 4 < g) (n2 : 5 < g) : Errs w' := by
  obtain ⟨⟨e1, h1, k1⟩, ⟨e2, h2, k2⟩⟩ := h
  have l1 := World.block_lt_of_cell? w _ h1
  have l2 := World.block_lt_of_cell? w _ h2
  exact ⟨⟨e1, (grown_far hg l1 (Nat.ne_of_lt n1)).trans h1, k1⟩, ⟨e2, (grown_far hg l2 (Nat.ne_of_lt n2)).trans h2, k2⟩⟩

set_option maxRecDepth 100000 in
theorem readNums_any (B g q : Nat) (t : ByteArray) (a0 : GAgg) (w : World) (hS : Six w g a0) (hF : Free w (some ⟨g, 0, none⟩)) (hq : Places w q g) (hqg : q ≠ g) (hql : q < w.heap.size) (hgl : g < w.heap.size) (ht : t.size ≤ 65536) (hE : Errs w) (hP : Pow w) (hM : MaxL w) (hBg : B ≤ g) (hEB : ∀ w', Below B w w' → Errs w' ∧ Pow w') :
    Calls Tryz.prog 78 #[.string t, .slice (some ⟨q, 0, none⟩) 6 6] w (Filled t g w) := by
  have HS := Lib.hid hS; clear hS
  have HF := Lib.hid hF; clear hF
  have HQ := Lib.hid hq; clear hq
  have HE := Lib.hid hE; clear hE
  have HP := Lib.hid hP; clear hP
  have HEB := Lib.hid hEB; clear hEB
  obtain ⟨m, hm⟩ := hM
  have hsp := sh_strings_SplitN t (sepB 44) 7 m w (by omega) hm (by decide) (by omega) (by omega)
  have HSP := Lib.hid hsp; clear hsp hm
  obtain ⟨L, hL⟩ : ∃ L, L = Lib.splitB (sepB 44) 0 (min 7 (t.size + 1) - 1) t := ⟨_, rfl⟩
  have HL1 := Lib.hid (show ∀ ms : List Int, ms.length = 6 → NumsOf t 44 ms → L = ms.map numT from fun ms h6 h => by
    rw [hL]
    exact split_nums (N := 6) comma_no h (by omega) (nums_len h))
  have hpc : Pieces t 44 L := by rw [hL]; exact split_pieces 44 _ t
  have HPC := Lib.hid hpc; clear hpc
  have hsp := HSP.out
  rw [← hL] at hsp
  have HSP2 := Lib.hid hsp; clear hsp HSP hL
  generalize min 7 (t.size + 1) = N at *
  go_enter Tryz.func78, Tryz.ntmps78
  go_wp2_with fail
  refine HSP2.out.mono ?_
  rintro e w1 ⟨rfl, rfl⟩
  clear HSP2
  have hb1 : Below w.heap.size w (w.alloc (.cells (Lib.cellsOf L N) 9)) := bal (Below.refl _ _) _
  have hc1 := fun (j : Nat) (h : j < L.length) => cells_part w L N 9 j h
  generalize w.alloc (.cells (Lib.cellsOf L N) 9) = w1 at *
  have HC1 := Lib.hid hc1; clear hc1
  have hz1 : w.heap.size < w1.heap.size ∨ L.length = 0 := by
    by_cases h0 : 0 < L.length
    · exact Or.inl (World.block_lt_of_cell? w1 _ (HC1.out 0 h0))
    · exact Or.inr (by omega)
  by_cases h6 : L.length = 6
  · rw [h6]
    have hp1 : w.heap.size < w1.heap.size := by omega
    have hpg : w.heap.size ≠ g := by omega
    have HPL := Lib.hid (piece_len HPC.out)
    have HC2 := Lib.hid (show ∀ j (h : j < 6), ∃ x, w1.cell? ⟨w.heap.size, j, none⟩ = some (.string x) ∧ L.take (j + 1) = L.take j ++ [x] ∧ x.size ≤ t.size ∧ x ∈ L from fun j h => ⟨L[j], HC1.out j (by omega), List.take_succ_eq_append_getElem (by omega), HPL.out _ (List.getElem_mem _), List.getElem_mem _⟩)
    have H6 := Lib.hid h6
    have HS1 := Lib.hid (HS.out.below hb1 hgl)
    have HF1 := Lib.hid (HF.out.below hb1 (fun b e => by simp [blk] at e; omega))
    have HQ1 := Lib.hid (show Places w1 q g from fun i hi => (hb1.cell (p := ⟨q, i, none⟩) hql).trans (HQ.out i hi))
    have hq1 : q < w1.heap.size := Nat.lt_trans hql hp1
    have hg1 : g < w1.heap.size := Nat.lt_trans hgl hp1
    have HGW := Lib.hid (grown_of_below hb1 (some g))
    generalize w.heap.size = pw at *
    clear HC1 HPL h6 hz1 HS HF HQ
    go_wp2_with fail
    go_loopw [22] (fun i wr => ∃ (j : Nat) (a : GAgg), i = .int .i64 j ∧ j ≤ 6 ∧ Hid (Six wr g a) ∧ Hid (Free wr (some ⟨g, 0, none⟩)) ∧ Hid (L.take j = (a.nums.take j).map numT ∧ ∀ n ∈ a.nums.take j, FitI n) ∧ Hid (w1.grownBy wr (some g))) (fun i _ => 6 - (intOf i).toNat)
    case atStart => exact ⟨0, a0, rfl, by omega, HS1, HF1, Lib.hid ⟨rfl, by simp⟩, Lib.hid (grown_of_below (Below.refl _ _) _)⟩
    case round =>
      obtain ⟨j, a, rfl, hj, HS, HF, HT, HG⟩ := hrel
      have hBr : Below B w wr := (hb1.mono (by omega)).trans (below_of_grown HG.out (by omega) (fun g' e => by injection e with e; omega))
      have hgr : g < wr.heap.size := Nat.lt_of_lt_of_le hg1 HG.out.size
      by_cases hlt : j < 6
      · obtain ⟨X, hx1, hx2, hx3, hx4⟩ := HC2.out j hlt
        have q0 : wr.cell? ⟨pw, j, none⟩ = some (.string X) := (grown_far HG.out (p := ⟨pw, j, none⟩) hp1 hpg).trans hx1
        have q1 : wr.cell? ⟨q, j, none⟩ = some (.pointer (some ⟨g, j, none⟩)) := (grown_far HG.out (p := ⟨q, j, none⟩) hq1 hqg).trans (HQ1.out j hlt)
        have Q1 := Lib.hid q1; clear q1
        have HX2 := Lib.hid hx2
        have HX4 := Lib.hid hx4
        have hrd := readNumber_any X wr (by omega) (HEB.out wr hBr).1 (HEB.out wr hBr).2
        have Hrd := Lib.hid hrd; clear hrd hx1 hx2 hx4
        go_wp2_with fail
        refine Hrd.out.mono ?_
        rintro e w3 ⟨n, b, rfl, hn, _, hb3⟩
        clear Hrd
        have HG3 := Lib.hid (grown_trans HG.out (grown_of_below hb3 (some g)))
        have HS3 := Lib.hid (HS.out.below hb3 hgr)
        have HF3 := Lib.hid (HF.out.below hb3 (fun b e => by simp [blk] at e; omega))
        rcases hn with ⟨rfl, rfl, hf1, hf2⟩ | ⟨rfl, hno⟩
        · have HT2 := Lib.hid (show L.take (j + 1) = ((a.setN j n).nums.take (j + 1)).map numT ∧ ∀ x ∈ (a.setN j n).nums.take (j + 1), FitI x from by
            rw [setN_nums a j n hlt]
            refine ⟨by rw [HX2.out, HT.out.1]; simp, fun x hx => ?_⟩
            rcases List.mem_append.1 hx with hx | hx
            · exact HT.out.2 x hx
            · simp at hx; subst hx; exact ⟨hf1, hf2⟩)
          have HS4 := Lib.hid (six_setN HS3.out j n hlt)
          have HF4 := Lib.hid (Free.setCell HF3.out ⟨g, j, none⟩ (.int .i64 n))
          have HG4 := Lib.hid (grown_setCell HG3.out ⟨g, j, none⟩ (Or.inl rfl) (.int .i64 n))
          obtain ⟨v0, c0⟩ := six_at HS3.out j hlt
          have f0 : w3.frozen? ⟨g, j, none⟩ = false := HF3.out g rfl j
          have q1 : w3.cell? ⟨q, j, none⟩ = some (.pointer (some ⟨g, j, none⟩)) := (hb3.cell (Nat.lt_of_lt_of_le hq1 HG.out.size)).trans Q1.out
          clear HT HS HF HG HS3 HF3 HG3 HX2 HX4 Q1 hb3 hBr hx3
          go_wp2
          exact ⟨⟨j + 1, a.setN j n, by go_num, by omega, HS4, HF4, HT2, HG4⟩, by simp [intOf]; omega⟩
        · have HN := Lib.hid (show ∀ ms, ms.length = 6 → (∀ m ∈ ms, Small m) → ¬ NumsOf t 44 ms from fun ms hl hs h => by
            have hx := HX4.out
            rw [HL1.out ms hl h] at hx
            obtain ⟨m, hm, e⟩ := List.mem_map.1 hx
            exact hno m (hs m hm) e.symm)
          have HGw := Lib.hid (grown_trans HGW.out HG3.out)
          clear HT HS HF HG HF3 HG3 HX2 HX4 Q1 hb3 hBr hno
          go_wp2
          go_ret
          exact ⟨false, rfl, HGw.out, a, HS3.out, Or.inr ⟨rfl, HN.out⟩⟩
      · obtain rfl : j = 6 := by omega
        have HN := Lib.hid (show NumsOf t 44 a.nums ∧ ∀ n ∈ a.nums, FitI n from by
          obtain ⟨h1, h2⟩ := HT.out
          have e1 : L.take 6 = L := List.take_of_length_le (by rw [H6.out]; exact Nat.le_refl _)
          have e2 : a.nums.take 6 = a.nums := rfl
          rw [e1, e2] at h1
          rw [e2] at h2
          refine ⟨?_, h2⟩
          unfold NumsOf
          rw [← h1]
          exact HPC.out)
        have HGw := Lib.hid (grown_trans HGW.out HG.out)
        clear HT hBr
        go_wp2
        go_ret
        exact ⟨true, rfl, HGw.out, a, HS.out, Or.inl ⟨rfl, HN.out.1, HN.out.2⟩⟩
  · have hd : ((L.length : Int) != 6) = true := by simp; omega
    have HN := Lib.hid (show ∀ ms, ms.length = 6 → (∀ m ∈ ms, Small m) → ¬ NumsOf t 44 ms from fun ms hl _ h => by
      have := congrArg List.length (HL1.out ms hl h)
      rw [List.length_map] at this
      omega)
    clear HL1 HC1 h6 hz1
    go_wp2
    go_ret
    exact ⟨false, rfl, grown_of_below hb1 _, a0, HS.out.below hb1 hgl, Or.inr ⟨rfl, HN.out⟩⟩

theorem places_new (w : World) (g : Nat) (T : TypeId) : Places (w.alloc (.cells #[.pointer (some ⟨g, 0, none⟩), .pointer (some ⟨g, 1, none⟩), .pointer (some ⟨g, 2, none⟩), .pointer (some ⟨g, 3, none⟩), .pointer (some ⟨g, 4, none⟩), .pointer (some ⟨g, 5, none⟩)] T)) w.heap.size g := by
  intro i hi
  rw [World.cell?_alloc_new]
  match i, hi with
  | 0, _ => rfl
  | 1, _ => rfl
  | 2, _ => rfl
  | 3, _ => rfl
  | 4, _ => rfl
  | 5, _ => rfl

set_option maxRecDepth 100000 in
theorem readAgg_any (t : ByteArray) (w : World) (ht : t.size ≤ 2 ^ 63 - 1) (hE : Errs w) (hP : Pow w) (hM : MaxL w) : Calls Tryz.prog 203 #[.string t] w fun e w' => ∃ a cd, e = .returned (.tuple #[.agg #[.int .i64 a.cnt, .int .i64 a.sum, .int .i64 a.mn, .int .i64 a.mx, .int .i64 a.fst, .int .i64 a.lst], .int .i64 cd]) ∧ AggCode t a cd ∧ Below w.heap.size w w' := by
  have HE := Lib.hid hE; clear hE
  have HP := Lib.hid hP; clear hP
  have HM := Lib.hid hM; clear hM
  go_enter Tryz.func203, Tryz.ntmps203
  go_wp2_with fail
  have hZ := ZeroAt.new w 26
  have hbw : Below w.heap.size w (w.alloc (.cells #[.int .i64 0, .int .i64 0, .int .i64 0, .int .i64 0, .int .i64 0, .int .i64 0] 26)) := bal (Below.refl _ _) _
  have hsz : (w.alloc (.cells #[.int .i64 0, .int .i64 0, .int .i64 0, .int .i64 0, .int .i64 0, .int .i64 0] 26)).heap.size = w.heap.size + 1 := by simp
  generalize w.alloc (.cells #[.int .i64 0, .int .i64 0, .int .i64 0, .int .i64 0, .int .i64 0, .int .i64 0] 26) = w0 at *
  have hb0 : Below w.heap.size w (w0.alloc (.cells #[.string t] 9)) := bal hbw _
  have hZ0 := hZ.below (bal (Below.refl _ w0) (.cells #[.string t] 9)) hZ.2.2
  have cW : (w0.alloc (.cells #[.string t] 9)).cell? ⟨w.heap.size + 1, 0, none⟩ = some (.string t) := by rw [← hsz]; simp
  have hEP := fun w' (h : Below w.heap.size w w') => And.intro (HE.out.below h (Nat.le_refl _)) (And.intro (HP.out.below h (Nat.le_refl _)) (HM.out.below h (Nat.le_refl _)))
  have HEP := Lib.hid hEP; clear hEP
  generalize w0.alloc (.cells #[.string t] 9) = W at *
  generalize hx0 : w.heap.size = x0 at *
  have Hx0 := Lib.hid hx0
  have hx1 : x0 < W.heap.size := hZ0.2.2
  have HZ := Lib.hid hZ0
  clear hx0 hZ0 hZ hbw hsz HE HP HM
  refine (tooLong_any (x0 + 1) t W cW ht).mono ?_
  rintro e w' ⟨rfl, rfl⟩
  clear cW
  cases hl : decide (65536 < (t.size : Int))
  · have hs : t.size ≤ 65536 := by simp at hl; omega
    clear hl
    go_wp2_with fail
    have hS1 := Six.new W zAgg 26
    have hF1 := free_alloc W #[.int .i64 0, .int .i64 0, .int .i64 0, .int .i64 0, .int .i64 0, .int .i64 0] 26 0
    have hb1 : Below W.heap.size W (W.alloc (.cells #[.int .i64 0, .int .i64 0, .int .i64 0, .int .i64 0, .int .i64 0, .int .i64 0] 26)) := bal (Below.refl _ _) _
    have hz1 : (W.alloc (.cells #[.int .i64 0, .int .i64 0, .int .i64 0, .int .i64 0, .int .i64 0, .int .i64 0] 26)).heap.size = W.heap.size + 1 := by simp
    have hS1' : Six (W.alloc (.cells #[.int .i64 0, .int .i64 0, .int .i64 0, .int .i64 0, .int .i64 0, .int .i64 0] 26)) W.heap.size zAgg := hS1
    clear hS1
    generalize W.alloc (.cells #[.int .i64 0, .int .i64 0, .int .i64 0, .int .i64 0, .int .i64 0, .int .i64 0] 26) = W1 at *
    obtain ⟨g, hg⟩ : ∃ g, g = W.heap.size := ⟨_, rfl⟩
    rw [← hg] at hb1 hz1 hS1' hF1 hx1 ⊢
    have hPl := places_new W1 g 134
    rw [hz1] at hPl
    have hb2 : Below W1.heap.size W1 (W1.alloc (.cells #[.pointer (some ⟨g, 0, none⟩), .pointer (some ⟨g, 1, none⟩), .pointer (some ⟨g, 2, none⟩), .pointer (some ⟨g, 3, none⟩), .pointer (some ⟨g, 4, none⟩), .pointer (some ⟨g, 5, none⟩)] 134)) := bal (Below.refl _ _) _
    have hz2 : g + 1 < (W1.alloc (.cells #[.pointer (some ⟨g, 0, none⟩), .pointer (some ⟨g, 1, none⟩), .pointer (some ⟨g, 2, none⟩), .pointer (some ⟨g, 3, none⟩), .pointer (some ⟨g, 4, none⟩), .pointer (some ⟨g, 5, none⟩)] 134)).heap.size := by simp; omega
    generalize W1.alloc (.cells #[.pointer (some ⟨g, 0, none⟩), .pointer (some ⟨g, 1, none⟩), .pointer (some ⟨g, 2, none⟩), .pointer (some ⟨g, 3, none⟩), .pointer (some ⟨g, 4, none⟩), .pointer (some ⟨g, 5, none⟩)] 134) = W2 at *
    have hgl : g < W1.heap.size := by omega
    have hS2 := hS1'.below hb2 hgl
    have hF2 := hF1.below hb2 (fun b e => by simp [blk] at e; omega)
    have hB2 : Below g W W2 := hb1.trans (hb2.mono (by omega))
    have hZ2 := HZ.out.below hB2 hx1
    have hBw : Below x0 w W2 := hb0.trans (hB2.mono (by omega))
    have hcall := readNums_any x0 g (g + 1) t zAgg W2 hS2 hF2 hPl (by omega) hz2 (by omega) hs (HEP.out W2 hBw).1 (HEP.out W2 hBw).2.1 (HEP.out W2 hBw).2.2 (by omega) (fun w' h => ⟨(HEP.out w' (hBw.trans h)).1, (HEP.out w' (hBw.trans h)).2.1⟩)
    have HC := Lib.hid hcall
    have HZ2 := Lib.hid hZ2
    have hxg : x0 ≠ g := by omega
    have hx2 : x0 < W2.heap.size := by omega
    clear hcall hZ2 hS2 hF2 hPl hS1' hF1 hb1 hb2 hz1 hB2 hb0 HZ hg HEP
    refine HC.out.mono ?_
    rintro e w3 ⟨b, rfl, hG, a, hS3, hR⟩
    have hZ3 : ZeroAt w3 x0 := ⟨⟨(grown_far hG (p := ⟨x0, 0, none⟩) hx2 hxg).trans HZ2.out.1.1, (grown_far hG (p := ⟨x0, 1, none⟩) hx2 hxg).trans HZ2.out.1.2.1, (grown_far hG (p := ⟨x0, 2, none⟩) hx2 hxg).trans HZ2.out.1.2.2.1, (grown_far hG (p := ⟨x0, 3, none⟩) hx2 hxg).trans HZ2.out.1.2.2.2.1, (grown_far hG (p := ⟨x0, 4, none⟩) hx2 hxg).trans HZ2.out.1.2.2.2.2.1, (grown_far hG (p := ⟨x0, 5, none⟩) hx2 hxg).trans HZ2.out.1.2.2.2.2.2⟩, fun b e i => by
      simp [blk] at e
      subst e
      have hblk := hG.block x0 hx2 (fun e => hxg (by injection e))
      have := HZ2.out.2.1 x0 rfl i
      unfold World.frozen? at this ⊢
      rw [hblk]
      exact this, Nat.lt_of_lt_of_le hx2 hG.size⟩
    have hB3 : Below x0 w w3 := hBw.trans (below_of_grown hG (by omega) (fun g' e => by injection e with e; omega))
    have hg3 : g < w3.heap.size := Nat.lt_of_lt_of_le (by omega) hG.size
    clear HC HZ2 hG hBw
    rcases hR with ⟨rfl, hN, hf⟩ | ⟨rfl, hno⟩
    · have HN := Lib.hid hN; have HF := Lib.hid hf; clear hN hf
      have HZ3 := Lib.hid hZ3; clear hZ3
      have HS3 := Lib.hid hS3
      obtain ⟨s0, s1, s2, s3, s4, s5⟩ : (w3.cell? ⟨g, 0, none⟩ = some (.int .i64 a.cnt) ∧ w3.cell? ⟨g, 1, none⟩ = some (.int .i64 a.sum) ∧ w3.cell? ⟨g, 2, none⟩ = some (.int .i64 a.mn) ∧ w3.cell? ⟨g, 3, none⟩ = some (.int .i64 a.mx) ∧ w3.cell? ⟨g, 4, none⟩ = some (.int .i64 a.fst) ∧ w3.cell? ⟨g, 5, none⟩ = some (.int .i64 a.lst)) := hS3
      by_cases hp : AggP a
      · have HR := Lib.hid (show AggCode t a 0 from Or.inr (Or.inl ⟨hs, ⟨hp, HN.out⟩, rfl⟩))
        have Hp := Lib.hid hp; clear hp HN HF
        go_wp2_with fail
        refine (aggOK_b a true (by simp [Hp.out]) w3).mono ?_
        rintro e w4 ⟨rfl, hb4⟩
        have hZ4 := HZ3.out.below hb4 HZ3.out.2.2
        have hS4 := HS3.out.below hb4 hg3
        have hB4 : Below x0 w w4 := hB3.trans (hb4.mono (by omega))
        have hx4 : x0 < w4.heap.size := hZ4.2.2
        obtain ⟨⟨z0, z1, z2, z3, z4, z5⟩, y0', y1', y2', y3', y4', y5'⟩ := hZ4.cells
        clear s0 s1 s2 s3 s4 s5 hZ4 HZ3 HS3 hb4 hB3
        obtain ⟨s0, s1, s2, s3, s4, s5⟩ : (w4.cell? ⟨g, 0, none⟩ = some (.int .i64 a.cnt) ∧ w4.cell? ⟨g, 1, none⟩ = some (.int .i64 a.sum) ∧ w4.cell? ⟨g, 2, none⟩ = some (.int .i64 a.mn) ∧ w4.cell? ⟨g, 3, none⟩ = some (.int .i64 a.mx) ∧ w4.cell? ⟨g, 4, none⟩ = some (.int .i64 a.fst) ∧ w4.cell? ⟨g, 5, none⟩ = some (.int .i64 a.lst)) := hS4
        go_wp2
        refine bodyPost_ret (v := .tuple #[.agg #[.int .i64 a.cnt, .int .i64 a.sum, .int .i64 a.mn, .int .i64 a.mx, .int .i64 a.fst, .int .i64 a.lst], .int .i64 0]) (by simp [results, Tryz.results203, go_sem, *]) rfl ⟨a, 0, rfl, HR.out, ?_⟩
        rw [Hx0.out]
        exact setAgg_below hB4 (Nat.le_refl _) a
      · have HR := Lib.hid (show AggCode t zAgg 3 from Or.inr (Or.inr ⟨hs, noAgg_bad HN.out HF.out hp, rfl, rfl⟩))
        have Hp := Lib.hid hp; clear hp HN HF
        go_wp2_with fail
        refine (aggOK_b a false (by simp [Hp.out]) w3).mono ?_
        rintro e w4 ⟨rfl, hb4⟩
        have hZ4 := HZ3.out.below hb4 HZ3.out.2.2
        have hB4 : Below x0 w w4 := hB3.trans (hb4.mono (by omega))
        have hx4 : x0 < w4.heap.size := hZ4.2.2
        obtain ⟨⟨z0, z1, z2, z3, z4, z5⟩, y0', y1', y2', y3', y4', y5'⟩ := hZ4.cells
        clear s0 s1 s2 s3 s4 s5 hZ4 HZ3 HS3 hb4 hB3
        go_wp2
        refine bodyPost_ret (v := .tuple #[.agg #[.int .i64 0, .int .i64 0, .int .i64 0, .int .i64 0, .int .i64 0, .int .i64 0], .int .i64 3]) (by simp [results, Tryz.results203, go_sem, *]) rfl ⟨zAgg, 3, rfl, HR.out, ?_⟩
        rw [Hx0.out]
        exact setAgg_below hB4 (Nat.le_refl _) zAgg
    · have HR := Lib.hid (show AggCode t zAgg 3 from Or.inr (Or.inr ⟨hs, noAgg_of hno, rfl, rfl⟩))
      obtain ⟨⟨z0, z1, z2, z3, z4, z5⟩, y0', y1', y2', y3', y4', y5'⟩ := hZ3.cells
      have hx3 : x0 < w3.heap.size := hZ3.2.2
      clear hno hZ3 hS3
      go_wp2
      refine bodyPost_ret (v := .tuple #[.agg #[.int .i64 0, .int .i64 0, .int .i64 0, .int .i64 0, .int .i64 0, .int .i64 0], .int .i64 3]) (by simp [results, Tryz.results203, go_sem, *]) rfl ⟨zAgg, 3, rfl, HR.out, ?_⟩
      rw [Hx0.out]
      exact setAgg_below hB3 (Nat.le_refl _) zAgg
  · have HR := Lib.hid (show AggCode t zAgg 2 from Or.inl ⟨by simp at hl; omega, rfl, rfl⟩)
    obtain ⟨⟨z0, z1, z2, z3, z4, z5⟩, y0', y1', y2', y3', y4', y5'⟩ := HZ.out.cells
    clear HZ HEP
    go_wp2
    refine bodyPost_ret (v := .tuple #[.agg #[.int .i64 0, .int .i64 0, .int .i64 0, .int .i64 0, .int .i64 0, .int .i64 0], .int .i64 2]) (by simp [results, Tryz.results203, go_sem, *]) rfl ⟨zAgg, 2, rfl, HR.out, ?_⟩
    rw [Hx0.out]
    exact setAgg_below hb0 (Nat.le_refl _) zAgg

end Go.Proofs.YtpackpocnonpiaaGreatDoor

/- Contract of the program's scanner.bucket. Conditions: the library's table of powers of ten is as its text lays it, its two errors' variables hold errors, its MaxLen an int; a text's length. -/
namespace Go.Proofs.YtpackpocnonpiaaGreatDoor
open Go.ChangeShapes Go.WideShapes Go.ChangeAt Go.RowKit
set_option linter.unusedVariables false
set_option linter.unusedSimpArgs false

/-- empty, or a blank first -/
def AtBlank (R : List UInt8) : Prop := R = [] ∨ ∃ r, R = 32 :: r

theorem cut_blank (R : List UInt8) : ∃ R', R = (Lib.cut R [32]).1 ++ R' ∧ (32 : UInt8) ∉ (Lib.cut R [32]).1 ∧ AtBlank R' := by
  unfold Lib.cut
  rw [Lib.index_one]
  by_cases h : 0 ≤ Lib.indexByte R 32
  · rw [if_pos h]
    obtain ⟨i, hi⟩ := Int.eq_ofNat_of_zero_le h
    obtain ⟨h1, h2⟩ := Lib.indexByte_some hi
    obtain ⟨hil, hic⟩ := List.getElem?_eq_some_iff.1 h1
    simp only [hi, Int.toNat_natCast]
    refine ⟨R.drop i, (List.take_append_drop _ _).symm, fun hm => ?_, Or.inr ⟨R.drop (i + 1), by rw [List.drop_eq_getElem_cons hil, hic]⟩⟩
    obtain ⟨j, hj, e⟩ := List.mem_iff_getElem.1 hm
    rw [List.getElem_take] at e
    simp at hj
    exact h2 j (by omega) (by rw [List.getElem?_eq_getElem (by omega), e])
  · rw [if_neg h]
    have h1 : Lib.indexByte R 32 = -1 := by have := Lib.indexByte_ge R 32; omega
    refine ⟨[], by simp, fun hm => ?_, Or.inl rfl⟩
    obtain ⟨j, hj, e⟩ := List.mem_iff_getElem.1 hm
    exact Lib.indexByte_none h1 j (by rw [List.getElem?_eq_getElem hj, e])

theorem blank_max : ∀ {D N R1 R2 : List UInt8}, D ++ R1 = N ++ R2 → (32 : UInt8) ∉ D → (32 : UInt8) ∉ N → AtBlank R1 → AtBlank R2 → D = N ∧ R1 = R2
  | [], [], _, _, e, _, _, _, _ => ⟨rfl, e⟩
  | [], n :: N, R1, R2, e, _, hN, h1, _ => by
    rcases h1 with rfl | ⟨r, rfl⟩
    · simp at e
    · simp at e; exact absurd (by simp [e.1]) hN
  | d :: D, [], R1, R2, e, hD, _, _, h2 => by
    rcases h2 with rfl | ⟨r, rfl⟩
    · simp at e
    · simp at e; exact absurd (by simp [e.1]) hD
  | d :: D, n :: N, R1, R2, e, hD, hN, h1, h2 => by
    simp at e
    obtain ⟨rfl, e⟩ := e
    obtain ⟨e1, e2⟩ := blank_max e (fun h => hD (by simp [h])) (fun h => hN (by simp [h])) h1 h2
    exact ⟨by rw [e1], e2⟩

def bktL (s : GBkt) : List UInt8 := (bktT s).data.toList

theorem bktL_eq (s : GBkt) : bktL s = (numT s.beg).data.toList ++ (58 :: (aggT s.agg).data.toList) := by simp [bktL, bktT, ByteArray.data_append]

/-- what bucket does, none having been wrong ahead -/
def Bucketed (R : List UInt8) (a : Nat) (s : GBkt) (a' : Nat) (x' : Value) : Prop := (x' = .nilIface ∧ FitB s ∧ ∃ R', R = bktL s ++ R' ∧ a' = a + (bktL s).length ∧ AtBlank R') ∨ (Bad x' ∧ ∀ s R', Small s.beg → AggP s.agg → AtBlank R' → R ≠ bktL s ++ R')

theorem not_colon : ¬ numC 58 := by
  intro h
  rcases h with h | h
  · unfold isDig at h; exact absurd h.2 (by decide)
  · exact absurd h (by decide)

theorem bucketed_of {R D R1 R2 D2 R3 : List UInt8} {a a2 : Nat} {n cd : Int} {g : GAgg} {x1 x2 x3 : Value} {q : ByteArray} (h1 : Numbered R a .nilIface n D R1 x1) (hm : (x2 = x1 ∧ R1 = 58 :: R2 ∧ a2 = a + D.length + 1) ∨ (Bad x2 ∧ ∀ R', R1 ≠ 58 :: R')) (hR : R2 = D2 ++ R3) (hD : (32 : UInt8) ∉ D2) (hB : AtBlank R3) (hq : q.data.toList = D2) (hc : AggCode q g cd) (hqs : q.size ≤ 65536) (hx : (cd = 0 → x3 = x2) ∧ (cd ≠ 0 → Bad x3)) : Bucketed R a ⟨n, g⟩ (a2 + D2.length) x3 := by
  obtain ⟨e1, c1, s1, k1⟩ := h1
  have hcd : (cd = 0 ∧ AggRead q g) ∨ (cd = 3 ∧ NoAgg q) := by
    rcases hc with ⟨h, _⟩ | ⟨_, h, e⟩ | ⟨_, h, _, e⟩
    · omega
    · exact Or.inl ⟨e, h⟩
    · exact Or.inr ⟨e, h⟩
  by_cases hx3 : x3 = .nilIface
  · subst hx3
    rcases hcd with ⟨rfl, ha⟩ | ⟨rfl, _⟩
    · have e3 := hx.1 rfl
      rcases hm with ⟨rfl, rfl, rfl⟩ | ⟨b, _⟩
      · rcases k1 with ⟨_, d1, f1⟩ | ⟨b, _⟩
        · have eq := nums_text ha.2 (aggT_nums g)
          refine Or.inl ⟨rfl, ⟨f1, fun m hm => small_fitI (aggP_small ha.1 m hm)⟩, R3, ?_, ?_, hB⟩
          · rw [e1, hR, bktL_eq, d1, ← hq, eq]
            simp
          · rw [bktL_eq, ← d1, ← hq, eq]
            simp
            omega
        · rw [← e3] at b; exact absurd b bad_nil
      · rw [← e3] at b; exact absurd b bad_nil
    · exact absurd (hx.2 (by decide)) bad_nil
  · have hb3 : Bad x3 := by
      rcases hcd with ⟨rfl, _⟩ | ⟨rfl, _⟩
      · have e3 := hx.1 rfl
        rcases hm with ⟨e', _⟩ | ⟨b, _⟩
        · rcases k1 with ⟨e'', _⟩ | ⟨b, _⟩
          · exact absurd (by rw [e3, e', e'']) hx3
          · rw [e3, e']; exact b
        · rw [e3]; exact b
      · exact hx.2 (by decide)
    refine Or.inr ⟨hb3, fun s R' sb sa hr e => ?_⟩
    rw [bktL_eq, e1] at e
    obtain ⟨g1, g2⟩ := run_max (R2 := 58 :: ((aggT s.agg).data.toList ++ R')) (by simpa using e) c1 (num_bytes s.beg) s1 (fun b r e => by injection e with e _; subst e; exact not_colon)
    rcases k1 with ⟨q1, _⟩ | ⟨_, b⟩
    · rcases hm with ⟨q2, r1, _⟩ | ⟨_, b⟩
      · rw [r1] at g2
        injection g2 with _ g2
        rw [hR] at g2
        obtain ⟨g3, _⟩ := blank_max g2 hD (agg_bytes s.agg 32 (Or.inl (by decide)) (by decide)) hB hr
        rcases hcd with ⟨rfl, _⟩ | ⟨_, hno⟩
        · exact hx3 (by rw [hx.1 rfl, q2, q1])
        · exact hno s.agg ⟨sa, by rw [ba_eq (hq.trans g3)]; exact aggT_nums s.agg⟩
      · exact b _ g2
    · exact b s.beg sb g1

/-- a bucket written into a block -/
def set7 (w : World) (r : Nat) (s : GBkt) : World := (((((((w.setCell ⟨r, 0, none⟩ (.int .i64 s.beg)).setCell ⟨r, 1, none⟩ (.int .i64 s.agg.cnt)).setCell ⟨r, 2, none⟩ (.int .i64 s.agg.sum)).setCell ⟨r, 3, none⟩ (.int .i64 s.agg.mn)).setCell ⟨r, 4, none⟩ (.int .i64 s.agg.mx)).setCell ⟨r, 5, none⟩ (.int .i64 s.agg.fst)).setCell ⟨r, 6, none⟩ (.int .i64 s.agg.lst))

theorem scan_set7 {w : World} {g r a : Nat} {t : ByteArray} {x : Value} (h : Scan w g t a x) (hne : r ≠ g) (s : GBkt) : Scan (set7 w r s) g t a x := by
  have f : ∀ (W : World) (i : Nat) (v : Value) (k : Nat), (W.setCell ⟨r, i, none⟩ v).cell? ⟨g, k, none⟩ = W.cell? ⟨g, k, none⟩ := fun W i v k => World.cell?_setCell_other W ⟨r, i, none⟩ ⟨g, k, none⟩ v (fun e => hne (by injection e))
  unfold set7
  exact ⟨by simp only [f]; exact h.c0, by simp only [f]; exact h.c1, by simp only [f]; exact h.c2, fun i => by simp only [frozen_setCell]; exact h.fz i, by simp only [size_setCell]; exact h.lt⟩

theorem grown_set7 {a w : World} {row : Option Nat} {r : Nat} (h : a.grownBy w row) (hr : a.heap.size ≤ r) (s : GBkt) : a.grownBy (set7 w r s) row := by
  unfold set7
  exact grown_setCell (grown_setCell (grown_setCell (grown_setCell (grown_setCell (grown_setCell (grown_setCell h _ (Or.inr hr) _) _ (Or.inr hr) _) _ (Or.inr hr) _) _ (Or.inr hr) _) _ (Or.inr hr) _) _ (Or.inr hr) _) _ (Or.inr hr) _

/-- a bucket's variable, of zeros, in block r -/
def ZeroB (w : World) (r : Nat) : Prop := (∀ i, i < 7 → w.cell? ⟨r, i, none⟩ = some (.int .i64 0)) ∧ (∀ i, w.frozen? ⟨r, i, none⟩ = false) ∧ r < w.heap.size

theorem ZeroB.new (w : World) (e : TypeId) : ZeroB (w.alloc (.cells #[.int .i64 0, .int .i64 0, .int .i64 0, .int .i64 0, .int .i64 0, .int .i64 0, .int .i64 0] e)) w.heap.size := ⟨fun i hi => by
  rw [World.cell?_alloc_new]
  match i, hi with
  | 0, _ => rfl
  | 1, _ => rfl
  | 2, _ => rfl
  | 3, _ => rfl
  | 4, _ => rfl
  | 5, _ => rfl
  | 6, _ => rfl, free_alloc w _ e 0 w.heap.size rfl, by simp⟩

theorem ZeroB.grown {w w' : World} {r g : Nat} (h : ZeroB w r) (hg : w.grownBy w' (some g)) (hne : r ≠ g) : ZeroB w' r := by
  have hblk := hg.block r h.2.2 (fun e => hne (by injection e))
  refine ⟨fun i hi => (World.cell?_of_block (a := ⟨r, i, none⟩) hblk).trans (h.1 i hi), fun i => ?_, Nat.lt_of_lt_of_le h.2.2 hg.size⟩
  have := h.2.1 i
  unfold World.frozen? at this ⊢
  rw [hblk]
  exact this

set_option maxRecDepth 100000 in
set_option maxHeartbeats 1000000 in
theorem bucket_g (g a : Nat) (t : ByteArray) (x : Value) (U R : List UInt8) (w : World) (h : Scan w g t a x) (hx : ErrV x) (hp : Parted t a U R) (hs : t.size ≤ 65536) (hEP : ∀ w', w.grownBy w' (some g) → Errs w' ∧ Pow w' ∧ MaxL w') :
    Calls Tryz.prog 162 #[.pointer (some ⟨g, 0, none⟩)] w fun e w' => ∃ (s : GBkt) (a' : Nat) (x' : Value), e = .returned (.agg #[.int .i64 s.beg, .int .i64 s.agg.cnt, .int .i64 s.agg.sum, .int .i64 s.agg.mn, .int .i64 s.agg.mx, .int .i64 s.agg.fst, .int .i64 s.agg.lst]) ∧ Scan w' g t a' x' ∧ (x = .nilIface → Bucketed R a s a' x') ∧ (Bad x → Bad x') ∧ a' ≤ t.size ∧ w.grownBy w' (some g) := by
  have H := Lib.hid h
  have HX0 := Lib.hid hx; clear hx
  have HP := Lib.hid hp
  have HEP := Lib.hid hEP; clear hEP hp
  have hlt := h.lt
  clear h
  go_enter Tryz.func162, Tryz.ntmps162
  go_wp2_with fail
  have hZ := ZeroB.new w 203
  have hb0 : Below w.heap.size w (w.alloc (.cells #[.int .i64 0, .int .i64 0, .int .i64 0, .int .i64 0, .int .i64 0, .int .i64 0, .int .i64 0] 203)) := bal (Below.refl _ _) _
  generalize w.alloc (.cells #[.int .i64 0, .int .i64 0, .int .i64 0, .int .i64 0, .int .i64 0, .int .i64 0, .int .i64 0] 203) = w0 at *
  have g0 : w.grownBy w0 (some g) := grown_of_below hb0 _
  have hS0 := H.out.below hb0
  have hrg : w.heap.size ≠ g := by omega
  have HZ := Lib.hid hZ
  have HG0 := Lib.hid g0
  clear hZ
  refine (number_g g a t x U R w0 hS0 HX0.out HP.out (by omega) (fun w' h => ⟨(HEP.out w' (grown_trans HG0.out h)).1, (HEP.out w' (grown_trans HG0.out h)).2.1⟩)).mono ?_
  rintro e w1 ⟨n, D, R1, x1, rfl, hS1, hN1, hg1⟩
  have HS1 := Lib.hid hS1
  have HN1 := Lib.hid hN1
  have HG1 := Lib.hid (grown_trans HG0.out hg1)
  have HZ1 := Lib.hid (HZ.out.grown hg1 hrg)
  have HP1 := Lib.hid (show Parted t (a + D.length) (U ++ D) R1 from by have := HP.out; rw [hN1.1] at this; exact this.on)
  have HX1 := Lib.hid (show ErrV x1 from by rcases hN1.2.2.2 with ⟨e, _⟩ | ⟨b, _⟩; (· rw [e]; exact HX0.out); (· exact Or.inr b))
  have HB1 := Lib.hid (show Bad x → Bad x1 from fun hb => by rcases hN1.2.2.2 with ⟨e, _⟩ | ⟨b, _⟩; (· rw [e]; exact hb); (· exact b))
  clear hS0 hS1 hN1 hg1 hb0 g0 HZ HG0
  obtain ⟨a1, ha1⟩ : ∃ a1, a1 = a + D.length := ⟨_, rfl⟩
  rw [← ha1] at HS1 HP1
  have HA1 := Lib.hid ha1; clear ha1
  go_wp2_with fail
  refine (mark_g g a1 t ⟨#[58]⟩ x1 (U ++ D) R1 w1 HS1.out HX1.out HP1.out (by omega) (by decide)).mono ?_
  rintro e w2 ⟨rfl, a2, x2, hS2, hM2, hg2⟩
  have HS2 := Lib.hid hS2
  have HG2 := Lib.hid (grown_trans HG1.out hg2)
  have HZ2 := Lib.hid (HZ1.out.grown hg2 hrg)
  have hM3 : ∃ U2 R2, Parted t a2 U2 R2 ∧ ((x2 = x1 ∧ R1 = 58 :: R2 ∧ a2 = a + D.length + 1) ∨ (Bad x2 ∧ ∀ R', R1 ≠ 58 :: R')) := by
    rcases hM2 with ⟨e1, e2, R', e3⟩ | ⟨b, e2, hn⟩
    · have e3' : R1 = [58] ++ R' := e3
      refine ⟨U ++ D ++ [58], R', ?_, Or.inl ⟨e1, e3, by rw [e2, HA1.out]; rfl⟩⟩
      have := HP1.out
      rw [e3'] at this
      rw [e2]
      exact this.on
    · exact ⟨U ++ D, R1, by rw [e2]; exact HP1.out, Or.inr ⟨b, fun R' e => hn R' e⟩⟩
  obtain ⟨U2, R2, hP2, hM3⟩ := hM3
  have HP2 := Lib.hid hP2
  have HM3 := Lib.hid hM3
  have HX2 := Lib.hid (show ErrV x2 from by rcases hM3 with ⟨e, _⟩ | ⟨b, _⟩; (· rw [e]; exact HX1.out); (· exact Or.inr b))
  have HB2 := Lib.hid (show Bad x → Bad x2 from fun hb => by rcases hM3 with ⟨e, _⟩ | ⟨b, _⟩; (· rw [e]; exact HB1.out hb); (· exact b))
  have hrest := rest_any g a2 t x2 w2 HS2.out hP2.le (by omega)
  have hX := hP2.rest
  have hle2 := hP2.le
  have hsz2 := hP2.size
  clear hS2 hM2 hg2 hP2 hM3 HS1 HG1 HZ1 HP1 HX1 HA1
  have hXs : (t.extract a2 t.size).size ≤ 65536 := by rw [ByteArray.size_extract]; omega
  generalize t.extract a2 t.size = X at *
  have HRest := Lib.hid hrest; clear hrest
  obtain ⟨R3, hc1, hc2, hc3⟩ := cut_blank R2
  obtain ⟨D2, hD2⟩ : ∃ D2, D2 = (Lib.cut R2 [32]).1 := ⟨_, rfl⟩
  rw [← hD2] at hc1 hc2
  obtain ⟨q, hq⟩ : ∃ q : ByteArray, q = ⟨D2.toArray⟩ := ⟨_, rfl⟩
  have hqD : q.data.toList = D2 := by rw [hq]
  have hqs : q.size = D2.length := by rw [hq]; simp [ByteArray.size]
  have hDl : D2.length ≤ R2.length := by rw [hc1]; simp
  have HCut := Lib.hid (show (⟨(Lib.cut X.data.toList (⟨#[32]⟩ : ByteArray).data.toList).1.toArray⟩ : ByteArray) = q from by rw [hX, hq, hD2])
  have HC1 := Lib.hid hc1; have HC2 := Lib.hid hc2; have HC3 := Lib.hid hc3; have HQD := Lib.hid hqD; have HQS := Lib.hid hqs
  have HSZ := Lib.hid hsz2; have HDL := Lib.hid hDl
  clear hc1 hc2 hc3 hD2 hq hqD hqs hX hsz2 hDl
  go_wp2_with fail
  refine HRest.out.mono ?_
  rintro e w3 ⟨rfl, hb3⟩
  have hgs2 := HS2.out.lt
  have HS3 := Lib.hid (HS2.out.below hb3)
  have HG3 := Lib.hid (grown_trans HG2.out (grown_of_below hb3 _))
  have HZ3 := Lib.hid (HZ2.out.grown (grown_of_below hb3 (some g)) hrg)
  clear HRest HS2 HG2 HZ2 hb3
  obtain ⟨ml, hml⟩ := (HEP.out w3 HG3.out).2.2
  have hcut := sh_strings_Cut X ⟨#[32]⟩ ml w3 (by omega) hml
  rw [HCut.out] at hcut
  have HCC := Lib.hid hcut; clear hcut hml
  go_wp2_with fail
  refine HCC.out.mono ?_
  rintro e w4 ⟨rfl, m4, rfl⟩
  have hb4 : Below w3.heap.size w3 (w3.drewN m4) := bdrewN (Below.refl _ _) _
  generalize w3.drewN m4 = w4 at *
  have HS4 := Lib.hid (HS3.out.below hb4)
  have HG4 := Lib.hid (grown_trans HG3.out (grown_of_below hb4 _))
  have HZ4 := Lib.hid (HZ3.out.grown (grown_of_below hb4 (some g)) hrg)
  generalize (⟨(Lib.cut X.data.toList (⟨#[32]⟩ : ByteArray).data.toList).2.1.toArray⟩ : ByteArray) = X2 at *
  generalize (Lib.cut X.data.toList (⟨#[32]⟩ : ByteArray).data.toList).2.2 = X3 at *
  clear HCC HCut HS3 HG3 HZ3 hb4
  have hq6 : q.size ≤ 65536 := by have := HQS.out; have := HDL.out; have := HSZ.out; omega
  go_wp2_with fail
  refine (readAgg_any q w4 (by omega) (HEP.out w4 HG4.out).1 (HEP.out w4 HG4.out).2.1 (HEP.out w4 HG4.out).2.2).mono ?_
  rintro e w5 ⟨ag, cd, rfl, hag, hb5⟩
  have HAg := Lib.hid hag; clear hag
  have HS5 := Lib.hid (HS4.out.below hb5)
  have HG5 := Lib.hid (grown_trans HG4.out (grown_of_below hb5 _))
  have HZ5 := Lib.hid (HZ4.out.grown (grown_of_below hb5 (some g)) hrg)
  clear HS4 HG4 HZ4 hb5
  have hb6 : Below w5.heap.size w5 (w5.alloc (.cells #[.int .i64 ag.cnt, .int .i64 ag.sum, .int .i64 ag.mn, .int .i64 ag.mx, .int .i64 ag.fst, .int .i64 ag.lst] 26)) := bal (Below.refl _ _) _
  have HS6 := Lib.hid (HS5.out.below hb6)
  have HG6 := Lib.hid (grown_trans HG5.out (grown_of_below hb6 _))
  have HZ6 := Lib.hid (HZ5.out.grown (grown_of_below hb6 (some g)) hrg)
  have HY6 := Lib.hid (Six.new w5 ag 26)
  have hy6 : w5.heap.size < (w5.alloc (.cells #[.int .i64 ag.cnt, .int .i64 ag.sum, .int .i64 ag.mn, .int .i64 ag.mx, .int .i64 ag.fst, .int .i64 ag.lst] 26)).heap.size := by simp
  have hyg : w5.heap.size ≠ g := by have := HS5.out.lt; omega
  have hle8 : a2 + q.size ≤ t.size := by have := HQS.out; have := HDL.out; have := HSZ.out; omega
  obtain ⟨r, hr⟩ : ∃ r, r = w.heap.size := ⟨_, rfl⟩
  have HR0 := Lib.hid (Nat.le_of_eq hr.symm)
  have HBk0 := Lib.hid (show ∀ x3, (cd = 0 → x3 = x2) ∧ (cd ≠ 0 → Bad x3) → x = .nilIface → Bucketed R a ⟨n, ag⟩ (a2 + q.size) x3 from fun x3 h e => by
    have h1 := HN1.out
    rw [e] at h1
    rw [HQS.out]
    exact bucketed_of h1 HM3.out HC1.out HC2.out HC3.out HQD.out HAg.out hq6 h)
  by_cases hcd : cd = 0
  · subst hcd
    have HBk := Lib.hid (HBk0.out x2 ⟨fun _ => rfl, fun h => absurd rfl h⟩)
    have HBb := HB2
    have HSf := HS5; have HGf := HG5; have HZf := HZ5
    clear HBk0 HAg HS5 HG5 HZ5 HS6 HG6 HZ6 HY6 hb6 HM3 HN1 HP2 HC1 HC2 HC3 HQD hy6
    rw [← hr] at HZf hrg ⊢
    clear hr
    have HS8 := Lib.hid ((scan_set7 (HSf.out.go (a2 + q.size)) hrg ⟨n, ag⟩).below (bal (Below.refl _ _) (.cells #[.int .i64 ag.cnt, .int .i64 ag.sum, .int .i64 ag.mn, .int .i64 ag.mx, .int .i64 ag.fst, .int .i64 ag.lst] 26)))
    have HG8 := Lib.hid (grown_trans (grown_set7 (grown_setCell HGf.out ⟨g, 1, none⟩ (Or.inl rfl) (.int .i64 ((a2 + q.size : Nat) : Int))) HR0.out ⟨n, ag⟩) (grown_of_below (bal (Below.refl _ _) (.cells #[.int .i64 ag.cnt, .int .i64 ag.sum, .int .i64 ag.mn, .int .i64 ag.mx, .int .i64 ag.fst, .int .i64 ag.lst] 26)) (some g)))
    have f1 := HSf.out.fz 1
    have c1 := HSf.out.c1
    have gl := HSf.out.lt
    have wa : IntKind.i64.wrap ((a2 : Int) + (q.size : Int)) = ((a2 + q.size : Nat) : Int) := by rw [IntKind.wrap_i64]; omega
    have hZf := HZf.out
    have rl := hZf.2.2
    have z0 := hZf.1 0 (by omega)
    have v0 := hZf.2.1 0
    have z1 := hZf.1 1 (by omega)
    have v1 := hZf.2.1 1
    have z2 := hZf.1 2 (by omega)
    have v2 := hZf.2.1 2
    have z3 := hZf.1 3 (by omega)
    have v3 := hZf.2.1 3
    have z4 := hZf.1 4 (by omega)
    have v4 := hZf.2.1 4
    have z5 := hZf.1 5 (by omega)
    have v5 := hZf.2.1 5
    have z6 := hZf.1 6 (by omega)
    have v6 := hZf.2.1 6
    clear hZf HGf HZf HSf
    go_wp2
    refine bodyPost_ret (v := .agg #[.int .i64 n, .int .i64 ag.cnt, .int .i64 ag.sum, .int .i64 ag.mn, .int .i64 ag.mx, .int .i64 ag.fst, .int .i64 ag.lst]) (by simp [results, Tryz.results162, go_sem, *]) rfl ⟨⟨n, ag⟩, a2 + q.size, x2, rfl, ?_, HBk.out, HBb.out, hle8, ?_⟩
    · exact HS8.out
    · exact HG8.out
  · have dn : (cd != 0) = true := by simpa using hcd
    have HBk1 := Lib.hid (show ∀ y, Bad y → x = .nilIface → Bucketed R a ⟨n, ag⟩ (a2 + q.size) y from fun y hy => HBk0.out y ⟨fun h => absurd h hcd, fun _ => hy⟩)
    clear HBk0 HAg HS5 HG5 HZ5 HM3 HN1 HP2 HC1 HC2 HC3 HQD hcd
    rw [← hr] at HZ6 hrg ⊢
    clear hr
    go_wp2_with fail
    generalize w5.alloc (.cells #[.int .i64 ag.cnt, .int .i64 ag.sum, .int .i64 ag.mn, .int .i64 ag.mx, .int .i64 ag.fst, .int .i64 ag.lst] 26) = w6 at *
    generalize w5.heap.size = y at *
    refine (fail_g g a2 t _ x2 w6 HS6.out HX2.out).mono ?_
    rintro e w7 ⟨rfl, bx, hbx, hS7, hg7⟩
    have HBk := Lib.hid (HBk1.out bx hbx)
    have HBb := Lib.hid (show Bad x → Bad bx from fun _ => hbx)
    have HSf := Lib.hid hS7
    have HGf := Lib.hid (grown_trans HG6.out hg7)
    have HZf := Lib.hid (HZ6.out.grown hg7 hrg)
    have hY7 : Six w7 y ag := by
      have hblk := hg7.block y hy6 (fun e => hyg (by injection e))
      obtain ⟨s0, s1, s2, s3, s4, s5⟩ := HY6.out
      exact ⟨(World.cell?_of_block (a := ⟨y, 0, none⟩) hblk).trans s0, (World.cell?_of_block (a := ⟨y, 1, none⟩) hblk).trans s1, (World.cell?_of_block (a := ⟨y, 2, none⟩) hblk).trans s2, (World.cell?_of_block (a := ⟨y, 3, none⟩) hblk).trans s3, (World.cell?_of_block (a := ⟨y, 4, none⟩) hblk).trans s4, (World.cell?_of_block (a := ⟨y, 5, none⟩) hblk).trans s5⟩
    have HS8 := Lib.hid (scan_set7 (HSf.out.go (a2 + q.size)) hrg ⟨n, ag⟩)
    have HG8 := Lib.hid (grown_set7 (grown_setCell HGf.out ⟨g, 1, none⟩ (Or.inl rfl) (.int .i64 ((a2 + q.size : Nat) : Int))) HR0.out ⟨n, ag⟩)
    obtain ⟨s0, s1, s2, s3, s4, s5⟩ : (w7.cell? ⟨y, 0, none⟩ = some (.int .i64 ag.cnt) ∧ w7.cell? ⟨y, 1, none⟩ = some (.int .i64 ag.sum) ∧ w7.cell? ⟨y, 2, none⟩ = some (.int .i64 ag.mn) ∧ w7.cell? ⟨y, 3, none⟩ = some (.int .i64 ag.mx) ∧ w7.cell? ⟨y, 4, none⟩ = some (.int .i64 ag.fst) ∧ w7.cell? ⟨y, 5, none⟩ = some (.int .i64 ag.lst)) := hY7
    have f1 := HSf.out.fz 1
    have c1 := HSf.out.c1
    have gl := HSf.out.lt
    have wa : IntKind.i64.wrap ((a2 : Int) + (q.size : Int)) = ((a2 + q.size : Nat) : Int) := by rw [IntKind.wrap_i64]; omega
    have hZf := HZf.out
    have rl := hZf.2.2
    have z0 := hZf.1 0 (by omega)
    have v0 := hZf.2.1 0
    have z1 := hZf.1 1 (by omega)
    have v1 := hZf.2.1 1
    have z2 := hZf.1 2 (by omega)
    have v2 := hZf.2.1 2
    have z3 := hZf.1 3 (by omega)
    have v3 := hZf.2.1 3
    have z4 := hZf.1 4 (by omega)
    have v4 := hZf.2.1 4
    have z5 := hZf.1 5 (by omega)
    have v5 := hZf.2.1 5
    have z6 := hZf.1 6 (by omega)
    have v6 := hZf.2.1 6
    clear hZf HGf HZf HSf HS6 HG6 HZ6 HY6 hS7 hg7 hbx HBk1 hb6
    go_wp2
    refine bodyPost_ret (v := .agg #[.int .i64 n, .int .i64 ag.cnt, .int .i64 ag.sum, .int .i64 ag.mn, .int .i64 ag.mx, .int .i64 ag.fst, .int .i64 ag.lst]) (by simp [results, Tryz.results162, go_sem, *]) rfl ⟨⟨n, ag⟩, a2 + q.size, bx, rfl, ?_, HBk.out, HBb.out, hle8, ?_⟩
    · exact HS8.out
    · exact HG8.out

end Go.Proofs.YtpackpocnonpiaaGreatDoor

/- Contract of the program's readList of buckets, which jumps. Conditions: the library's table of powers of ten is as its text lays it, its two errors' variables hold errors, its MaxLen an int; a text's length. -/
namespace Go.Proofs.YtpackpocnonpiaaGreatDoor
open Go.ChangeShapes Go.WideShapes Go.ChangeAt Go.RowKit
set_option linter.unusedVariables false
set_option linter.unusedSimpArgs false

/-- so far these were read, a blank behind each; R is left -/
def SoFarB (t : ByteArray) (xs : List GBkt) (U R : List UInt8) : Prop := U = flatC 32 (xs.map bktT) ∧ t.data.toList = U ++ R ∧ ∀ s ∈ xs, FitB s

/-- whatever buckets the text is of, the next one stands at R's beginning -/
theorem next_ofB {t : ByteArray} {xs ys : List GBkt} {U R : List UInt8} (h : SoFarB t xs U R) (hz : t.size ≠ 0) (hy : BktRead t ys) : ∃ z zs R', ys.length = xs.length + 1 + zs ∧ Small z.beg ∧ AggP z.agg ∧ R = bktL z ++ R' ∧ AtBlank R' ∧ (zs = 0 ↔ R' = []) := by
  obtain ⟨hU, ht, _⟩ := h
  have hp : Pieces t 32 (ys.map bktT) := by
    rcases hy.2 with ⟨_, h0⟩ | ⟨_, h⟩
    · exact absurd h0 hz
    · exact h
  obtain ⟨qs, last, e, hq⟩ := hp
  have hc : ∀ p ∈ qs ++ [last], (32 : UInt8) ∉ p.data.toList := by
    rw [← e]
    intro p hp
    obtain ⟨s, _, rfl⟩ := List.mem_map.1 hp
    exact bktT_blank s
  rw [ht, hU] at hq
  obtain ⟨rs, e1, e2⟩ := pieces_rest hq (fun p hp => by
    obtain ⟨s, _, rfl⟩ := List.mem_map.1 hp
    exact bktT_blank s) (fun p hp => hc p (by simp [hp])) (hc last (by simp))
  have hlen : ys.length = xs.length + rs.length + 1 := by
    have := congrArg List.length e
    rw [e1] at this
    simp at this
    omega
  cases rs with
  | nil =>
    have hm : last ∈ ys.map bktT := by rw [e]; simp
    obtain ⟨z, hz', rfl⟩ := List.mem_map.1 hm
    have sm := bktP_small hy.1 z hz'
    exact ⟨z, 0, [], by simpa using hlen, sm.1, sm.2, by rw [e2]; simp [flatC, bktL], Or.inl rfl, by simp⟩
  | cons r rs =>
    have hm : r ∈ ys.map bktT := by rw [e, e1]; simp
    obtain ⟨z, hz', rfl⟩ := List.mem_map.1 hm
    have sm := bktP_small hy.1 z hz'
    exact ⟨z, rs.length + 1, 32 :: (flatC 32 rs ++ last.data.toList), by simp at hlen; omega, sm.1, sm.2, by rw [e2]; simp [flatC, bktL], Or.inr ⟨_, rfl⟩, by simp⟩

theorem bktL_one {s z : GBkt} {R1 R2 : List UInt8} (h : bktL s ++ R1 = bktL z ++ R2) (h1 : AtBlank R1) (h2 : AtBlank R2) : R1 = R2 := (blank_max h (bktT_blank s) (bktT_blank z) h1 h2).2

theorem soFar_endB {t : ByteArray} {xs : List GBkt} {s : GBkt} {U R : List UInt8} (h : SoFarB t xs U R) (hR : R = bktL s) (hf : FitB s) : BktOf t (xs ++ [s]) ∧ ∀ x ∈ xs ++ [s], FitB x := by
  obtain ⟨hU, ht, hx⟩ := h
  refine ⟨Or.inr ⟨by simp, xs.map bktT, bktT s, by simp, by rw [ht, hU, hR]; rfl⟩, fun x hm => ?_⟩
  rcases List.mem_append.1 hm with hm | hm
  · exact hx x hm
  · simp at hm; subst hm; exact hf

theorem soFar_nextB {t : ByteArray} {xs : List GBkt} {s : GBkt} {U R R' : List UInt8} (h : SoFarB t xs U R) (hR : R = bktL s ++ 32 :: R') (hf : FitB s) : SoFarB t (xs ++ [s]) (U ++ bktL s ++ [32]) R' := by
  obtain ⟨hU, ht, hx⟩ := h
  refine ⟨by rw [hU]; simp [flatC, bktL], by rw [ht, hR]; simp, fun x hm => ?_⟩
  rcases List.mem_append.1 hm with hm | hm
  · exact hx x hm
  · simp at hm; subst hm; exact hf

/-- how readList ends -/
def ListEndB (t : ByteArray) (w : World) (e : Ending) (w' : World) : Prop := Below w.heap.size w w' ∧ ((∃ A k xs, e = .returned (.tuple #[.slice A xs.length k, .nilIface]) ∧ BktOf t xs ∧ xs.length ≤ 8 ∧ (∀ x ∈ xs, FitB x) ∧ OwnSl GBkt.vals 7 203 w.heap.size w' (.slice A xs.length k) xs) ∨ (∃ y, e = .returned (.tuple #[.slice none 0 0, y]) ∧ Bad y ∧ NoBkt t))

/-- what holds where an item begins -/
def ItemFB (t : ByteArray) (g : Nat) (w : World) (xs : List GBkt) (A : Option Addr) (k : Nat) (w' : World) : Prop := t.size ≠ 0 ∧ xs.length < 8 ∧ OwnSl GBkt.vals 7 203 (g + 1) w' (.slice A xs.length k) xs ∧ Below g w w' ∧ g < w'.heap.size ∧ ∃ p x U R, Scan w' g t p x ∧ ErrV x ∧ Parted t p U R ∧ ((x = .nilIface ∧ SoFarB t xs U R) ∨ (Bad x ∧ NoBkt t))

/-- what holds where the end begins -/
def EndFB (t : ByteArray) (g : Nat) (w : World) (xs : List GBkt) (A : Option Addr) (k : Nat) (w' : World) : Prop := OwnSl GBkt.vals 7 203 (g + 1) w' (.slice A xs.length k) xs ∧ Below g w w' ∧ BktOf t xs ∧ xs.length ≤ 8 ∧ ∀ x ∈ xs, FitB x

def FrameOfB (t : ByteArray) (g : Nat) (A : Option Addr) (n k : Nat) (a : Act) : Prop := ∃ u8 u9 u10 u11 u12 u13 u14 u15 u16 u17 u18 u19 u20 u21 u22 u23 u24 u25 u26 u27 u28 u29 u30 u31 u32 u33 u34 u35 u36 u37 u38 u39 u40 u41 : Value, a = { tmps := #[.string t, .func (.func 162) #[] #[], undef, undef, .slice none 0 0, .nilIface, .pointer (some ⟨g, 0, none⟩), .slice A n k, u8, u9, u10, u11, u12, u13, u14, u15, u16, u17, u18, u19, u20, u21, u22, u23, u24, u25, u26, u27, u28, u29, u30, u31, u32, u33, u34, u35, u36, u37, u38, u39, u40, u41], defers := [] }

def JumpFB (t : ByteArray) (g : Nat) (w : World) (l : Nat) (a : Act) (w' : World) : Prop := ∃ A k xs, FrameOfB t g A xs.length k a ∧ ((l = 1 ∧ Hid (ItemFB t g w xs A k w')) ∨ (l = 0 ∧ Hid (EndFB t g w xs A k w')))

theorem own_moreB {w : World} {v : Value} {xs : List GBkt} {b c : Nat} (h : OwnSl GBkt.vals 7 203 b w v xs) (hc : c ≤ b) : OwnSl GBkt.vals 7 203 c w v xs := ⟨h.1, by
  rcases h.2 with h | ⟨g, cap, cur, e, hb, r⟩
  · exact Or.inl h
  · exact Or.inr ⟨g, cap, cur, e, Nat.le_trans hc hb, r⟩⟩

set_option maxRecDepth 100000 in
set_option maxHeartbeats 1000000 in
theorem readListB_any (t : ByteArray) (w : World) (ht : t.size ≤ 65536) (hEP : ∀ w', Below w.heap.size w w' → Errs w' ∧ Pow w' ∧ MaxL w') : Calls Tryz.prog 202 #[.string t, .func (.func 162) #[] #[]] w (ListEndB t w) := by
  have HEP := Lib.hid hEP; clear hEP
  obtain ⟨g, hg⟩ : ∃ g, g = w.heap.size := ⟨_, rfl⟩
  have HG := Lib.hid hg; clear hg
  go_enter Tryz.func202, Tryz.ntmps202
  go_wp2_with fail
  refine wp_scope_labels (JumpFB t g w) lenM ?_ ?_ ?_
  · rintro l a w' ⟨A, k, xs, _, ⟨rfl, _⟩ | ⟨rfl, _⟩⟩
    · rfl
    · rfl
  · intro PASS
    have P1 := PASS 1
    simp only [behind, findLabel, beq_self_eq_true, if_true] at P1
    clear PASS
    go_wp2_with fail
    have hSc := Scan.new w t 209
    have hb1 : Below w.heap.size w (w.alloc (.cells #[.string t, .int .i64 0, .nilIface] 209)) := bal (Below.refl _ _) _
    generalize w.alloc (.cells #[.string t, .int .i64 0, .nilIface] 209) = wr at *
    rw [← HG.out] at hSc hb1 ⊢
    cases he : (((0 : Nat) : Int) == (t.size : Int))
    · refine (atEnd_any g 0 t .nilIface wr hSc (by omega)).mono ?_
      rw [he]
      rintro e w2 ⟨rfl, hb2⟩
      have hz : t.size ≠ 0 := fun h => by rw [h] at he; cases he
      have HZT := Lib.hid hz; clear hz
      have hS2 := hSc.below hb2
      have H := Lib.hid (show ItemFB t g w [] none 0 w2 from ⟨HZT.out, by simp, ⟨rfl, Or.inl ⟨rfl, rfl⟩⟩, hb1.trans (hb2.mono (Nat.le_of_lt hSc.lt)), hS2.lt, 0, .nilIface, [], t.data.toList, hS2, ErrV.nil, ⟨rfl, rfl⟩, Or.inl ⟨rfl, rfl, rfl, by simp⟩⟩)
      clear hSc hb1 hb2 hS2 he
      go_wp2_with fail
      go_step3
      rename_i hK
      exact hK _ _ (P1 _ _ ⟨none, 0, [], ⟨_, _, _, _, _, _, _, _, _, _, _, _, _, _, _, _, _, _, _, _, _, _, _, _, _, _, _, _, _, _, _, _, _, _, rfl⟩, Or.inl ⟨rfl, H⟩⟩)
    · refine (atEnd_any g 0 t .nilIface wr hSc (by omega)).mono ?_
      rw [he]
      rintro e w2 ⟨rfl, hb2⟩
      have hz : t.size = 0 := by simp at he; omega
      have H := Lib.hid (show EndFB t g w [] none 0 w2 from ⟨⟨rfl, Or.inl ⟨rfl, rfl⟩⟩, hb1.trans (hb2.mono (Nat.le_of_lt hSc.lt)), Or.inl ⟨rfl, hz⟩, by simp, by simp⟩)
      clear hSc hb1 hb2 he
      go_wp2_with fail
      go_step3
      exact ⟨none, 0, [], ⟨_, _, _, _, _, _, _, _, _, _, _, _, _, _, _, _, _, _, _, _, _, _, _, _, _, _, _, _, _, _, _, _, _, _, rfl⟩, Or.inr ⟨rfl, H⟩⟩
  · rintro l a wr ⟨A, k, xs, ⟨u8, u9, u10, u11, u12, u13, u14, u15, u16, u17, u18, u19, u20, u21, u22, u23, u24, u25, u26, u27, u28, u29, u30, u31, u32, u33, u34, u35, u36, u37, u38, u39, u40, u41, rfl⟩, ⟨rfl, H⟩ | ⟨rfl, H⟩⟩
    · simp only [behind, findLabel, beq_self_eq_true, if_true]
      obtain ⟨hzt, h8, hO, hBw, hgs, p, x, U, R, hSc, hXe, hPt, hCase⟩ := H.out
      have HO := Lib.hid hO; have HSc := Lib.hid hSc; have HXe := Lib.hid hXe; have HPt := Lib.hid hPt; have HCase := Lib.hid hCase; have HZT := Lib.hid hzt; clear hzt
      clear H hO hSc hXe hPt hCase
      have hEPg : ∀ w', wr.grownBy w' (some g) → Errs w' ∧ Pow w' ∧ MaxL w' := fun w' h => HEP.out w' (by rw [← HG.out]; exact hBw.trans (grown_below h hgs (Nat.le_refl _)))
      have hcall := bucket_g g p t x U R wr HSc.out HXe.out HPt.out (by omega) hEPg
      have HCall := Lib.hid hcall; clear hcall hEPg
      go_wp2_with fail
      refine HCall.out.mono ?_
      rintro e w3 ⟨s, p', x', rfl, hS3, hSa, hBa, hle, hg3⟩
      clear HCall
      have hB3 : Below g w w3 := hBw.trans (grown_below hg3 hgs (Nat.le_refl _))
      have hgs3 : g < w3.heap.size := Nat.lt_of_lt_of_le hgs hg3.size
      have HOw := Lib.hid (HO.out.kept hg3 (by rw [ownBlock_blk]; cases hA : blk A with | none => exact Or.inl rfl | some b => exact Or.inr (fun e => by injection e with e; have := (OwnSl.sl HO.out (fun x => rfl)).2.2.1 b hA; omega)))
      have HO4 := Lib.hid (HOw.out.below (bal (Below.refl _ w3) (.cells #[.int .i64 s.beg, .int .i64 s.agg.cnt, .int .i64 s.agg.sum, .int .i64 s.agg.mn, .int .i64 s.agg.mx, .int .i64 s.agg.fst, .int .i64 s.agg.lst] 203)))
      have HNw := Lib.hid (new_bkt w3 s 203)
      have hOut : (x' = .nilIface ∧ x = .nilIface ∧ Bucketed R p s p' x') ∨ (Bad x' ∧ NoBkt t) := by
        rcases HCase.out with ⟨e, hsf⟩ | ⟨b, hn⟩
        · rcases hSa e with ⟨e', r⟩ | ⟨b, hn⟩
          · exact Or.inl ⟨e', e, hSa e⟩
          · refine Or.inr ⟨b, fun ys hy => ?_⟩
            obtain ⟨z, zs, R', _, z1, z2, z3, z4, _⟩ := next_ofB hsf HZT.out hy
            exact hn z R' z1 z2 z4 z3
        · exact Or.inr ⟨hBa b, hn⟩
      have HS3 := Lib.hid hS3; clear hS3 hSa hBa HO HOw HSc HXe hBw hgs hg3
      have sz3 : g + 1 ≤ w3.heap.size := hgs3
      rcases hOut with ⟨rfl, rfl, hSa⟩ | ⟨⟨sx, nx, rfl⟩, hno⟩
      · have hsf : SoFarB t xs U R := by
          rcases HCase.out with ⟨_, h⟩ | ⟨b, _⟩
          · exact h
          · exact absurd b bad_nil
        have hsm : FitB s ∧ ∃ R', R = bktL s ++ R' ∧ p' = p + (bktL s).length ∧ AtBlank R' := by
          rcases hSa with ⟨_, h⟩ | ⟨b, _⟩
          · exact h
          · exact absurd b bad_nil
        obtain ⟨hfs, R', hR', hp', hst⟩ := hsm
        have HSF := Lib.hid hsf; have HR' := Lib.hid hR'; have HST := Lib.hid hst; have HFS := Lib.hid hfs
        have HP' := Lib.hid (show Parted t p' (U ++ bktL s) R' from by have := HPt.out; rw [hR'] at this; rw [hp']; exact this.on)
        clear hsf hR' hst hfs hSa HCase HPt hp'
        go_wp2_with (at_builtin; refine wpList_append_sl GBkt.vals 7 56 (fun _ => rfl) bkt_one 144 203 _ infoBkt rfl (by omega) Tryz.underlying144 rfl _ _ rfl (g + 1) xs [s] (.slice A xs.length k) rfl HO4.out (some ⟨w3.heap.size, 0, none⟩) 1 (w3.heap.size + 1) rfl HNw.out (by simp [maxLen]; omega) (by simp; omega) (by simp; omega) ?_; intro v' w5 hO5 hg5 _; obtain ⟨ys, hys⟩ : ∃ ys, ys = xs ++ [s] := ⟨_, rfl⟩; rw [← hys] at hO5; have HYS := Lib.hid hys; clear hys; obtain ⟨A5, c5, rfl⟩ := hO5.form; have HO5 := Lib.hid hO5; clear hO5; have hb5 : Below (g + 1) w3 w5 := ((bal (Below.refl _ w3) (.cells #[.int .i64 s.beg, .int .i64 s.agg.cnt, .int .i64 s.agg.sum, .int .i64 s.agg.mn, .int .i64 s.agg.mx, .int .i64 s.agg.fst, .int .i64 s.agg.lst] 203)).mono (by omega)).trans (below_of_grown hg5 (by simp; omega) (fun g e => (World.ownsRow.lt HO4.out g e).1)); have hS5 : Scan w5 g t p' .nilIface := ⟨(hb5.cell (p := ⟨g, 0, none⟩) (by simp)).trans HS3.out.c0, (hb5.cell (p := ⟨g, 1, none⟩) (by simp)).trans HS3.out.c1, (hb5.cell (p := ⟨g, 2, none⟩) (by simp)).trans HS3.out.c2, fun i => (hb5.frozen (p := ⟨g, i, none⟩) (by simp)).trans (HS3.out.fz i), Nat.lt_of_lt_of_le HS3.out.lt hb5.size⟩; have q2 := hS5.c2; have HS5 := Lib.hid hS5; clear hS5; have Hb5 := Lib.hid hb5; clear hb5 hg5)
        have hB5 : Below g w w5 := hB3.trans (Hb5.out.mono (by omega))
        have hyl : ys.length ≤ 8 := by rw [HYS.out]; simp; omega
        cases he : ((p' : Int) == (t.size : Int))
        · refine (atEnd_any g p' t .nilIface w5 HS5.out (by omega)).mono ?_
          rw [he]
          rintro e w6 ⟨rfl, hb6⟩
          have hR0 : R' ≠ [] := fun h => by
            have := HP'.out.size
            rw [h] at this
            simp at this he
            omega
          have HR0 := Lib.hid hR0; clear hR0
          have HS6 := Lib.hid (HS5.out.below hb6)
          have HO6 := Lib.hid (HO5.out.below hb6)
          have hB6 : Below g w w6 := hB5.trans (hb6.mono (Nat.le_of_lt HS5.out.lt))
          have HNX := Lib.hid (show ∀ zs, BktRead t zs → ys.length < zs.length from fun zs hz => by
            obtain ⟨z, n, R2, hl, z1, z2, z3, z4, z5⟩ := next_ofB HSF.out HZT.out hz
            have e1 := bktL_one (HR'.out.symm.trans z3) HST.out z4
            have n0 : n ≠ 0 := fun h => HR0.out (by rw [e1]; exact z5.1 h)
            rw [HYS.out]
            simp
            omega)
          clear HS5 HO5 hb6 he Hb5 hB5
          cases h8' : ((ys.length : Int) == 8)
          · have hy7 : ys.length < 8 := by simp at h8'; omega
            go_wp2_with fail
            refine (mark_g g p' t ⟨#[32]⟩ .nilIface (U ++ bktL s) R' w6 HS6.out ErrV.nil HP'.out (by omega) (by decide)).mono ?_
            rintro e w7 ⟨rfl, p7, x7, hS7, hM7, hg7⟩
            have hgs6 := HS6.out.lt
            have hB7 : Below g w w7 := hB6.trans (grown_below hg7 hgs6 (Nat.le_refl _))
            have hO7 := HO6.out.kept hg7 (by rw [ownBlock_blk]; cases hA : blk A5 with | none => exact Or.inl rfl | some b => exact Or.inr (fun e => by injection e with e; have := (OwnSl.sl HO6.out (fun x => rfl)).2.2.1 b hA; omega))
            have H7 : Hid (ItemFB t g w ys A5 c5 w7) := Lib.hid (by
              refine ⟨HZT.out, hy7, hO7, hB7, hS7.lt, p7, x7, ?_⟩
              rcases hM7 with ⟨e1, e2, R2, e3⟩ | ⟨b, e2, hn⟩
              · have e3' : R' = [32] ++ R2 := e3
                have hP7 : Parted t p7 (U ++ bktL s ++ [32]) R2 := by have := HP'.out; rw [e3'] at this; rw [e2]; exact this.on
                exact ⟨_, _, hS7, by rw [e1]; exact ErrV.nil, hP7, Or.inl ⟨e1, by rw [HYS.out]; exact soFar_nextB HSF.out (by rw [HR'.out, e3']; rfl) HFS.out⟩⟩
              · refine ⟨U ++ bktL s, R', hS7, Or.inr b, by rw [e2]; exact HP'.out, Or.inr ⟨b, fun zs hz => ?_⟩⟩
                rcases HST.out with h | ⟨r, h⟩
                · exact HR0.out h
                · exact hn r (by rw [h]; rfl))
            clear hS7 hM7 hg7 hO7 HS6 HO6 hB6 HNX hB7
            go_wp2_with fail
            go_step3
            refine ⟨⟨A5, c5, ys, ⟨_, _, _, _, _, _, _, _, _, _, _, _, _, _, _, _, _, _, _, _, _, _, _, _, _, _, _, _, _, _, _, _, _, _, rfl⟩, Or.inl ⟨rfl, H7⟩⟩, ?_⟩
            simp [lenM, sliceLen, HYS.out]
            omega
          · have HN := Lib.hid (show NoBkt t from fun zs hz => by have := HNX.out zs hz; have := hz.1.1; simp at h8'; omega)
            have q1 := HS6.out.c1
            have bE : Below w.heap.size w w6 := by rw [← HG.out]; exact hB6
            clear HNX
            go_wp2_with fail
            go_quiet (fail)
            go_wp2
            exact bodyPost_ret (v := .tuple #[.slice none 0 0, .iface 249 (.agg #[.string ⟨#[101, 110, 100]⟩, .int .i64 p'])]) (by simp [results, Tryz.results202, go_sem]) rfl ⟨bdrewN bE _, Or.inr ⟨_, rfl, ⟨_, _, rfl⟩, HN.out⟩⟩
        · refine (atEnd_any g p' t .nilIface w5 HS5.out (by omega)).mono ?_
          rw [he]
          rintro e w6 ⟨rfl, hb6⟩
          have hR0 : R' = [] := by
            have := HP'.out.size
            apply List.length_eq_zero_iff.1
            simp at he
            omega
          have hend := soFar_endB HSF.out (by rw [HR'.out, hR0]; simp) HFS.out
          rw [← HYS.out] at hend
          have H6 : Hid (EndFB t g w ys A5 c5 w6) := Lib.hid ⟨HO5.out.below hb6, hB5.trans (hb6.mono (Nat.le_of_lt HS5.out.lt)), hend.1, hyl, hend.2⟩
          clear hend hR0 HS5 HO5 hb6 he Hb5 hB5
          go_wp2_with fail
          go_step3
          refine ⟨⟨A5, c5, ys, ⟨_, _, _, _, _, _, _, _, _, _, _, _, _, _, _, _, _, _, _, _, _, _, _, _, _, _, _, _, _, _, _, _, _, _, rfl⟩, Or.inr ⟨rfl, H6⟩⟩, ?_⟩
          simp [lenM, sliceLen]
          omega
      · have HN := Lib.hid hno; clear hno HCase HPt
        go_wp2_with (at_builtin; refine wpList_append_sl GBkt.vals 7 56 (fun _ => rfl) bkt_one 144 203 _ infoBkt rfl (by omega) Tryz.underlying144 rfl _ _ rfl (g + 1) xs [s] (.slice A xs.length k) rfl HO4.out (some ⟨w3.heap.size, 0, none⟩) 1 (w3.heap.size + 1) rfl HNw.out (by simp [maxLen]; omega) (by simp; omega) (by simp; omega) ?_; intro v' w5 hO5 hg5 _; obtain ⟨A5, c5, rfl⟩ := hO5.form; have hb5 : Below (g + 1) w3 w5 := ((bal (Below.refl _ w3) (.cells #[.int .i64 s.beg, .int .i64 s.agg.cnt, .int .i64 s.agg.sum, .int .i64 s.agg.mn, .int .i64 s.agg.mx, .int .i64 s.agg.fst, .int .i64 s.agg.lst] 203)).mono (by omega)).trans (below_of_grown hg5 (by simp; omega) (fun g e => (World.ownsRow.lt HO4.out g e).1)); have q2 : w5.cell? ⟨g, 2, none⟩ = _ := (hb5.cell (p := ⟨g, 2, none⟩) (by simp)).trans HS3.out.c2; have Hb5 := Lib.hid hb5; clear hb5 hg5 hO5)
        have bE : Below w.heap.size w w5 := by rw [← HG.out]; exact hB3.trans (Hb5.out.mono (by omega))
        go_quiet (fail)
        go_wp2
        exact bodyPost_ret (v := .tuple #[.slice none 0 0, .iface 249 (.agg #[.string sx, .int .i64 nx])]) (by simp [results, Tryz.results202, go_sem]) rfl ⟨bdrewN bE _, Or.inr ⟨_, rfl, ⟨_, _, rfl⟩, HN.out⟩⟩
    · simp only [behind, findLabel, beq_self_eq_true, if_true]
      obtain ⟨hO, hB, hof, h8, hf⟩ := H.out
      have HO := Lib.hid (own_moreB (c := g) hO (by omega)); clear hO H
      have HOF := Lib.hid hof; have HF := Lib.hid hf; clear hof hf
      go_wp2
      refine bodyPost_ret (v := .tuple #[.slice A xs.length k, .nilIface]) (by simp [results, Tryz.results202, go_sem]) rfl ⟨by rw [← HG.out]; exact hB, Or.inl ⟨A, k, xs, rfl, HOF.out, h8, HF.out, by rw [← HG.out]; exact HO.out⟩⟩

end Go.Proofs.YtpackpocnonpiaaGreatDoor

/- Contracts of the program's readRight of buckets and ReadBuckets. Conditions: the library's table of powers of ten is as its text lays it, its two errors' variables hold errors, its MaxLen an int; a text's length. -/
namespace Go.Proofs.YtpackpocnonpiaaGreatDoor
open Go.ChangeShapes Go.WideShapes Go.ChangeAt Go.RowKit
set_option linter.unusedVariables false
set_option linter.unusedSimpArgs false

/-- how ReadBuckets ends: what it answers is of its own -/
def ReadEndB (t : ByteArray) (w : World) (e : Ending) (w' : World) : Prop := ∃ A k xs cd, e = .returned (.tuple #[.slice A xs.length k, .int .i64 cd]) ∧ BktCode t xs cd ∧ OwnSl GBkt.vals 7 203 w.heap.size w' (.slice A xs.length k) xs ∧ Below w.heap.size w w'

theorem bktOf_one {t : ByteArray} {xs ys : List GBkt} (h : BktOf t xs) (fx : ∀ x ∈ xs, FitB x) (k : BktRead t ys) : xs = ys := by
  have fy : ∀ s ∈ ys, FitB s := fun s hs => ⟨small_fitI (bktP_small k.1 s hs).1, fun n hn => small_fitI (aggP_small (bktP_small k.1 s hs).2 n hn)⟩
  rcases h with ⟨rfl, h0⟩ | ⟨hn, hp⟩ <;> rcases k.2 with ⟨rfl, k0⟩ | ⟨kn, kp⟩
  · rfl
  · exact absurd kp (no_pieceB h0 kn)
  · exact absurd hp (no_pieceB k0 hn)
  · obtain ⟨ps, last, e, hq⟩ := kp
    have hc : ∀ p ∈ ps ++ [last], (32 : UInt8) ∉ p.data.toList := by
      rw [← e]
      intro p hp
      obtain ⟨s, _, rfl⟩ := List.mem_map.1 hp
      exact bktT_blank s
    have := bkts_cut hp ⟨hq, fun p hp => hc p (by simp [hp]), hc last (by simp)⟩
    exact bkt_inj fx fy (by rw [← this, e])

theorem own_nilB (base : Nat) (w : World) : OwnSl GBkt.vals 7 203 base w (.slice none ([] : List GBkt).length 0) [] := ⟨rfl, Or.inl ⟨rfl, rfl⟩⟩

set_option maxRecDepth 100000 in
theorem readRightB_any (t : ByteArray) (w : World) (ht : t.size ≤ 2 ^ 63 - 1) (hE : Errs w) (hP : Pow w) (hM : MaxL w) : Calls Tryz.prog 161 #[.string t, .func (.func 162) #[] #[], .func (.func 163) #[] #[]] w (ReadEndB t w) := by
  have HE := Lib.hid hE; clear hE
  have HP := Lib.hid hP; clear hP
  have HM := Lib.hid hM; clear hM
  have cW : (w.alloc (.cells #[.string t] 9)).cell? ⟨w.heap.size, 0, none⟩ = some (.string t) := by simp
  have bW : Below w.heap.size w (w.alloc (.cells #[.string t] 9)) := bal (Below.refl _ _) _
  go_enter Tryz.func161, Tryz.ntmps161
  go_wp2_with fail
  generalize w.alloc (.cells #[.string t] 9) = w0 at *
  refine (tooLong_any w.heap.size t w0 cW ht).mono ?_
  rintro e w' ⟨rfl, rfl⟩
  clear cW
  cases hl : decide (65536 < (t.size : Int))
  · have hs : t.size ≤ 65536 := by simp at hl; omega
    clear hl
    go_wp2_with fail
    refine (readListB_any t w0 hs (fun w' h => by
      have hb : Below w.heap.size w w' := bnext bW h
      exact ⟨HE.out.below hb (Nat.le_refl _), HP.out.below hb (Nat.le_refl _), HM.out.below hb (Nat.le_refl _)⟩)).mono ?_
    rintro e w1 ⟨hb1, ⟨A, k, xs, rfl, hof, h8, hf, hO⟩ | ⟨y, rfl, ⟨sx, nx, rfl⟩, hno⟩⟩
    · have b1 := bnext bW hb1
      have HO := Lib.hid (own_moreB (c := w.heap.size) hO bW.size)
      obtain ⟨hsl, _, _, _⟩ := OwnSl.sl hO (fun x => rfl)
      have HSl := Lib.hid hsl
      have HOF := Lib.hid hof; have HF := Lib.hid hf
      clear hO hsl hof hf hb1 bW
      go_wp2_with fail
      refine (bucketsOK_any A k xs w1.heap.size w1 HSl.out (Nat.le_refl _) (by omega)).mono ?_
      rintro e w2 ⟨b, hb, rfl, hb2⟩
      have b2 := bnext b1 hb2
      have HO2 := Lib.hid (HO.out.below hb2)
      clear b1 hb2 HO HSl
      cases b
      · have HR := Lib.hid (show BktCode t [] 3 from Or.inr (Or.inr ⟨hs, fun ys hy => by
          have e := bktOf_one HOF.out HF.out hy
          rw [e] at hb
          exact Bool.noConfusion (hb.2 hy.1), rfl, rfl⟩))
        clear hb
        go_wp2
        exact bodyPost_ret (v := .tuple #[.slice none 0 0, .int .i64 3]) (by simp [results, Tryz.results161, go_sem]) rfl ⟨none, 0, [], 3, rfl, HR.out, own_nilB _ _, b2⟩
      · have HR := Lib.hid (show BktCode t xs 0 from Or.inr (Or.inl ⟨hs, ⟨hb.1 rfl, HOF.out⟩, rfl⟩))
        clear hb
        go_wp2
        exact bodyPost_ret (v := .tuple #[.slice A xs.length k, .int .i64 0]) (by simp [results, Tryz.results161, go_sem]) rfl ⟨A, k, xs, 0, rfl, HR.out, HO2.out, b2⟩
    · have HR := Lib.hid (show BktCode t [] 3 from Or.inr (Or.inr ⟨hs, hno, rfl, rfl⟩)); clear hno
      have b1 := bnext bW hb1
      clear bW hb1
      go_wp2
      exact bodyPost_ret (v := .tuple #[.slice none 0 0, .int .i64 3]) (by simp [results, Tryz.results161, go_sem]) rfl ⟨none, 0, [], 3, rfl, HR.out, own_nilB _ _, b1⟩
  · have HR := Lib.hid (show BktCode t [] 2 from Or.inl ⟨by simp at hl; omega, rfl, rfl⟩)
    go_wp2
    exact bodyPost_ret (v := .tuple #[.slice none 0 0, .int .i64 2]) (by simp [results, Tryz.results161, go_sem]) rfl ⟨none, 0, [], 2, rfl, HR.out, own_nilB _ _, bW⟩

theorem readBuckets_any (t : ByteArray) (w : World) (ht : t.size ≤ 2 ^ 63 - 1) (hE : Errs w) (hP : Pow w) (hM : MaxL w) : Calls Tryz.prog 92 #[.string t] w (ReadEndB t w) := by
  have HE := Lib.hid hE; clear hE
  have HP := Lib.hid hP; clear hP
  have HM := Lib.hid hM; clear hM
  go_enter Tryz.func92, Tryz.ntmps92
  go_wp2_with fail
  refine (readRightB_any t w ht HE.out HP.out HM.out).mono ?_
  rintro e w1 ⟨A, k, xs, cd, rfl, hR, hO, hb⟩
  have HR := Lib.hid hR; have HO := Lib.hid hO
  clear hR hO
  go_wp2
  exact bodyPost_ret (v := .tuple #[.slice A xs.length k, .int .i64 cd]) (by simp [results, Tryz.results92, go_sem]) rfl ⟨A, k, xs, cd, rfl, HR.out, HO.out, hb⟩

end Go.Proofs.YtpackpocnonpiaaGreatDoor

/- Contracts of WindowOf of both packages, and of the program's foldData. Conditions: sizes; the library's tables. -/
namespace Go.Proofs.YtpackpocnonpiaaGreatDoor
open Go.ChangeShapes Go.WideShapes Go.ChangeAt Go.RowKit
set_option linter.unusedVariables false
set_option linter.unusedSimpArgs false

theorem four {w : World} {b : Nat} {v0 v1 v2 v3 : Value} (h : Cells w b 0 [v0, v1, v2, v3]) : w.cell? ⟨b, 0, none⟩ = some v0 ∧ w.cell? ⟨b, 1, none⟩ = some v1 ∧ w.cell? ⟨b, 2, none⟩ = some v2 ∧ w.cell? ⟨b, 3, none⟩ = some v3 := ⟨h 0 _ rfl, h 1 _ rfl, h 2 _ rfl, h 3 _ rfl⟩

set_option maxRecDepth 100000 in
set_option maxHeartbeats 2000000 in
theorem specWindowOf_any (e : GEnt) (t : ByteArray) (f u : Int) (w : World) (hk : e.key.size ≤ 1048576) (ht : t.size ≤ 1048576) :
    Calls Tryz.prog 8 #[.agg #[.int .i64 e.tier, .int .i64 e.beg, .int .i64 e.fin, .string e.key], .string t, .int .i64 f, .int .i64 u] w fun x w' => ∃ r cd, x = .returned (.tuple #[.agg #[.int .i64 r.cnt, .int .i64 r.sum, .int .i64 r.mn, .int .i64 r.mx, .int .i64 r.fst, .int .i64 r.lst], .int .i64 cd]) ∧ WinR e t f u r cd ∧ Below w.heap.size w w' := by
  by_cases hl : 65536 < t.size
  · have d0 : decide ((t.size : Int) > 65536) = true := by simp; omega
    have d1 : decide (65536 < (t.size : Int)) = true := by simp; omega
    have HR := Lib.hid (show WinR e t f u zAgg 2 from .inl ⟨hl, rfl, rfl⟩)
    clear hl
    go_enter Tryz.func8, Tryz.ntmps8
    go_wp2
    refine bodyPost_ret (v := .tuple #[.agg #[.int .i64 0, .int .i64 0, .int .i64 0, .int .i64 0, .int .i64 0, .int .i64 0], .int .i64 2]) (by simp [results, Tryz.results8, go_sem]) rfl ⟨zAgg, 2, rfl, HR.out, ?_⟩
    repeat' first | exact Below.refl _ _ | refine bal ?_ _ | refine bset ?_ (by simp) _
  have d0 : decide ((t.size : Int) > 65536) = false := by simp; omega
  have d1 : decide (65536 < (t.size : Int)) = false := by simp; omega
  have HL : Hid (t.size ≤ 65536) := Lib.hid (by omega)
  clear hl
  go_enter Tryz.func8, Tryz.ntmps8
  go_wp2_with fail
  obtain ⟨W, hW⟩ : ∃ W, W = (w.alloc (.cells #[.int .i64 e.tier, .int .i64 e.beg, .int .i64 e.fin, .string e.key] 29)).alloc (.cells #[.int .i64 0, .int .i64 0, .int .i64 0, .int .i64 0, .int .i64 0, .int .i64 0] 26) := ⟨_, rfl⟩
  have q0 : ZBox W (w.heap.size + 1) := by rw [hW]; simpa using ZBox.new (w.alloc (.cells #[.int .i64 e.tier, .int .i64 e.beg, .int .i64 e.fin, .string e.key] 29)) 26
  have t0 : Cells W w.heap.size 0 [.int .i64 e.tier, .int .i64 e.beg, .int .i64 e.fin, .string e.key] := by rw [hW]; exact (Cells.new w _ _).below (bal (Below.refl _ _) _) (by simp)
  have b0 : Below w.heap.size w W := by rw [hW]; exact bal (bal (Below.refl _ _) _) _
  have s0 : w.heap.size + 1 < W.heap.size := by rw [hW]; simp
  rw [← hW]
  clear hW
  have Q0 := Lib.hid q0; clear q0
  have T0 := Lib.hid t0; clear t0
  generalize hx0 : w.heap.size = x0 at *
  have Hx0 := Lib.hid hx0; clear hx0
  refine (l06Tiered_any ⟨0, 0, e.tier, e.beg, e.fin, e.key⟩ 0 W hk).mono ?_
  rintro x w1 ⟨b, hb, rfl, hb1⟩
  have b1 : Below x0 w w1 := b0.trans (hb1.mono (by omega))
  have Q1 := Lib.hid (Q0.out.below hb1 s0)
  have T1 := Lib.hid (T0.out.below hb1 (by omega))
  have s1 : x0 + 1 < w1.heap.size := by have := hb1.size; omega
  clear Q0 T0 hb1 b0 s0
  cases b
  · have HR := Lib.hid (show WinR e t f u zAgg 1 from .inr (.inl ⟨HL.out, (fun h => by have := hb.2 ⟨h, h.tier.1⟩; cases this), rfl, rfl⟩))
    clear hb
    obtain ⟨z0, z1, z2, z3, z4, z5⟩ := Q1.out.1
    have y0 := Q1.out.2 0
    have y1 := Q1.out.2 1
    have y2 := Q1.out.2 2
    have y3 := Q1.out.2 3
    have y4 := Q1.out.2 4
    have y5 := Q1.out.2 5
    go_wp2
    refine bodyPost_ret (v := .tuple #[.agg #[.int .i64 0, .int .i64 0, .int .i64 0, .int .i64 0, .int .i64 0, .int .i64 0], .int .i64 1]) (by simp [results, Tryz.results8, go_sem, *]) rfl ⟨zAgg, 1, rfl, HR.out, ?_⟩
    rw [Hx0.out]
    repeat' first | (with_reducible exact b1) | (with_reducible refine Below.alloc ?_ (by simp only [size_setCell]; omega) _) | (with_reducible refine Below.setCell ?_ (by first | exact Nat.le_refl _ | (show x0 ≤ x0 + 1; omega)) _)
  have HE : Hid (EntP e) := Lib.hid (hb.1 rfl).1
  clear hb
  go_wp2_with fail
  refine (l04Range_any f u _).mono ?_
  rintro x w' ⟨rfl, rfl⟩
  cases hr : rngB f u
  · have HR := Lib.hid (show WinR e t f u zAgg 4 from .inr (.inr (.inl ⟨HL.out, HE.out, hr, rfl, rfl⟩)))
    clear hr
    obtain ⟨z0, z1, z2, z3, z4, z5⟩ := Q1.out.1
    have y0 := Q1.out.2 0
    have y1 := Q1.out.2 1
    have y2 := Q1.out.2 2
    have y3 := Q1.out.2 3
    have y4 := Q1.out.2 4
    have y5 := Q1.out.2 5
    go_wp2
    refine bodyPost_ret (v := .tuple #[.agg #[.int .i64 0, .int .i64 0, .int .i64 0, .int .i64 0, .int .i64 0, .int .i64 0], .int .i64 4]) (by simp [results, Tryz.results8, go_sem, *]) rfl ⟨zAgg, 4, rfl, HR.out, ?_⟩
    rw [Hx0.out]
    repeat' first | (with_reducible exact b1) | (with_reducible refine Below.alloc ?_ (by simp only [size_setCell]; omega) _) | (with_reducible refine Below.setCell ?_ (by first | exact Nat.le_refl _ | (show x0 ≤ x0 + 1; omega)) _)
  have Hr := Lib.hid hr; clear hr
  obtain ⟨p0, p1, p2, p3⟩ := four T1.out
  go_wp2_with fail
  refine (l08Window_any e t f u Hr.out HL.out w1).mono ?_
  rintro x w2 ⟨r, b, rfl, hv, hb2⟩
  have b2 : Below x0 w w2 := b1.trans (hb2.mono (by omega))
  have Q2 := Lib.hid (Q1.out.below hb2 s1)
  have s2 : x0 + 1 < w2.heap.size := by have := hb2.size; omega
  have HV := Lib.hid hv
  clear Q1 T1 hb2 b1 s1 hv p0 p1 p2 p3
  cases b
  · have HR := Lib.hid (show WinR e t f u zAgg 17 from .inr (.inr (.inr (.inl ⟨HL.out, HE.out, Hr.out, (by rcases HV.out with ⟨h, _⟩ | ⟨_, h⟩; (· cases h); (· exact h)), rfl, rfl⟩))))
    clear HV
    obtain ⟨z0, z1, z2, z3, z4, z5⟩ := Q2.out.1
    have y0 := Q2.out.2 0
    have y1 := Q2.out.2 1
    have y2 := Q2.out.2 2
    have y3 := Q2.out.2 3
    have y4 := Q2.out.2 4
    have y5 := Q2.out.2 5
    go_wp2
    refine bodyPost_ret (v := .tuple #[.agg #[.int .i64 0, .int .i64 0, .int .i64 0, .int .i64 0, .int .i64 0, .int .i64 0], .int .i64 17]) (by simp [results, Tryz.results8, go_sem, *]) rfl ⟨zAgg, 17, rfl, HR.out, ?_⟩
    rw [Hx0.out]
    repeat' first | (with_reducible exact b2) | (with_reducible refine Below.alloc ?_ (by simp only [size_setCell]; omega) _) | (with_reducible refine Below.setCell ?_ (by first | exact Nat.le_refl _ | (show x0 ≤ x0 + 1; omega)) _)
  have HR := Lib.hid (show WinR e t f u r 0 from .inr (.inr (.inr (.inr ⟨HL.out, HE.out, Hr.out, (by rcases HV.out with ⟨_, h⟩ | ⟨h, _⟩; (· exact h); (· cases h)), rfl⟩))))
  clear HV
  obtain ⟨z0, z1, z2, z3, z4, z5⟩ := Q2.out.1
  have y0 := Q2.out.2 0
  have y1 := Q2.out.2 1
  have y2 := Q2.out.2 2
  have y3 := Q2.out.2 3
  have y4 := Q2.out.2 4
  have y5 := Q2.out.2 5
  go_wp2
  refine bodyPost_ret (v := .tuple #[.agg #[.int .i64 r.cnt, .int .i64 r.sum, .int .i64 r.mn, .int .i64 r.mx, .int .i64 r.fst, .int .i64 r.lst], .int .i64 0]) (by simp [results, Tryz.results8, go_sem, *]) rfl ⟨r, 0, rfl, HR.out, ?_⟩
  rw [Hx0.out]
  repeat' first | (with_reducible exact b2) | (with_reducible refine Below.alloc ?_ (by simp only [size_setCell]; omega) _) | (with_reducible refine Below.setCell ?_ (by first | exact Nat.le_refl _ | (show x0 ≤ x0 + 1; omega)) _)

set_option maxRecDepth 100000 in
set_option maxHeartbeats 2000000 in
theorem foldData_any (tier : Int) (t : ByteArray) (f u : Int) (hr : rngB f u = true) (ht : t.size ≤ 65536) (w : World) (hE : Errs w) (hP : Pow w) (hM : MaxL w) :
    Calls Tryz.prog 39 #[.int .i64 tier, .string t, .int .i64 f, .int .i64 u] w fun x w' => ∃ r cd, x = .returned (.tuple #[.agg #[.int .i64 r.cnt, .int .i64 r.sum, .int .i64 r.mn, .int .i64 r.mx, .int .i64 r.fst, .int .i64 r.lst], .int .i64 cd]) ∧ ((cd = 0 ∧ WinV tier t f u r) ∨ (cd ≠ 0 ∧ WinNo tier t)) ∧ Below w.heap.size w w' := by
  have hEP := fun w' (h : Below w.heap.size w w') => (show Errs w' ∧ Pow w' ∧ MaxL w' from ⟨hE.below h (Nat.le_refl _), hP.below h (Nat.le_refl _), hM.below h (Nat.le_refl _)⟩)
  have HEP := Lib.hid hEP; clear hEP hE hP hM
  have hfu : f ≤ u := by have := rngB_iff.1 hr; omega
  have HFU := Lib.hid hfu; clear hfu
  have Hr := Lib.hid hr; clear hr
  by_cases h0 : tier = 0
  · have d0 : (tier == 0) = true := by simpa using h0
    have H0 := Lib.hid h0; clear h0
    go_enter Tryz.func39, Tryz.ntmps39
    go_wp2_with fail
    obtain ⟨W, hW⟩ : ∃ W, W = w.alloc (.cells #[.int .i64 0, .int .i64 0, .int .i64 0, .int .i64 0, .int .i64 0, .int .i64 0] 26) := ⟨_, rfl⟩
    have q0 : ZBox W w.heap.size := by rw [hW]; exact ZBox.new w 26
    have b0 : Below w.heap.size w W := by rw [hW]; exact bal (Below.refl _ _) _
    have s0 : w.heap.size < W.heap.size := by rw [hW]; simp
    rw [← hW]
    clear hW
    have Q0 := Lib.hid q0; clear q0
    refine (readSamples_any t W (by omega) (HEP.out _ b0).1 (HEP.out _ b0).2.1).mono ?_
    generalize hx0 : w.heap.size = x0 at *
    have Hx0 := Lib.hid hx0; clear hx0
    rintro x w1 ⟨A, k, xs, cd, rfl, hc, ho, hb1⟩
    have b1 : Below x0 w w1 := b0.trans (hb1.mono (by omega))
    have Q1 := Lib.hid (Q0.out.below hb1 s0)
    have s1 : x0 < w1.heap.size := by have := hb1.size; omega
    obtain ⟨hsl, _, _, hck⟩ := OwnSl.sl ho (fun x => rfl)
    have HSL := Lib.hid hsl; have HA := Lib.hid (OwnSl.addr ho)
    clear Q0 hb1 b0 s0 hsl ho
    rcases hc with ⟨h, _⟩ | ⟨_, hR, rfl⟩ | ⟨_, hN, rfl, rfl⟩
    · omega
    rotate_left
    · have HR := Lib.hid (show WinNo tier t from .inl ⟨H0.out, hN⟩)
      clear hN HSL HA
      obtain ⟨z0, z1, z2, z3, z4, z5⟩ := Q1.out.1
      have y0 := Q1.out.2 0
      have y1 := Q1.out.2 1
      have y2 := Q1.out.2 2
      have y3 := Q1.out.2 3
      have y4 := Q1.out.2 4
      have y5 := Q1.out.2 5
      go_wp2
      refine bodyPost_ret (v := .tuple #[.agg #[.int .i64 0, .int .i64 0, .int .i64 0, .int .i64 0, .int .i64 0, .int .i64 0], .int .i64 3]) (by simp [results, Tryz.results39, go_sem, *]) rfl ⟨zAgg, 3, rfl, .inr ⟨by omega, HR.out⟩, ?_⟩
      rw [Hx0.out]
      repeat' first | (with_reducible exact b1) | (with_reducible refine Below.alloc ?_ (by simp only [size_setCell]; omega) _) | (with_reducible refine Below.setCell ?_ (by first | exact Nat.le_refl _ | (show x0 ≤ x0; omega)) _)
    have HRd := Lib.hid hR; clear hR
    have hlen : xs.length ≤ 8 := HRd.out.2.1
    go_wp2_with fail
    refine (spanSampleA_any A k xs f u HFU.out w1.heap.size w1 HSL.out (Nat.le_refl _) (by omega) hck HA.out).mono ?_
    rintro x w2 ⟨A2, c2, i, j, rfl, hi, hj, hs2, hb2⟩
    have hY := span_filter HRd.out.1.ris hi hj HFU.out
    have HP2 := Lib.hid (HRd.out.1.span i j)
    have HS2 := Lib.hid hs2
    have b2 : Below x0 w w2 := b1.trans (hb2.mono (by omega))
    have Q2 := Lib.hid (Q1.out.below hb2 s1)
    have s2 : x0 < w2.heap.size := by have := hb2.size; omega
    have z2 : w1.heap.size ≤ w2.heap.size := hb2.size
    have hyl : ((xs.take j).drop i).length ≤ 8 := by simp only [List.length_drop, List.length_take]; omega
    have HY := Lib.hid hY
    clear hs2 hi hj hb2 Q1 b1 s1 hY HSL HA
    generalize (xs.take j).drop i = ys at *
    go_wp2_with fail
    refine (aggOf_any A2 c2 ys w1.heap.size w2 HS2.out z2 (by omega)).mono ?_
    rintro x w3 ⟨r, cd, rfl, ha, hb3⟩
    obtain ⟨hrr, rfl⟩ : r = gOf ys ∧ cd = 0 := by
      rcases ha with ⟨h, _⟩ | ⟨_, h, _⟩ | ⟨_, h1, h2⟩
      · omega
      · exact absurd HP2.out h
      · exact ⟨h1, h2⟩
    have HR := Lib.hid (show WinV tier t f u r from .inl ⟨H0.out, xs, HRd.out, by rw [hrr, HY.out]⟩)
    have b3 : Below x0 w w3 := b2.trans (hb3.mono (by omega))
    have Q3 := Lib.hid (Q2.out.below hb3 s2)
    clear ha hrr HP2 HS2 HY hb3 Q2 b2 s2 z2
    obtain ⟨z0, z1, z2, z3, z4, z5⟩ := Q3.out.1
    have y0 := Q3.out.2 0
    have y1 := Q3.out.2 1
    have y2 := Q3.out.2 2
    have y3 := Q3.out.2 3
    have y4 := Q3.out.2 4
    have y5 := Q3.out.2 5
    go_wp2
    refine bodyPost_ret (v := .tuple #[.agg #[.int .i64 r.cnt, .int .i64 r.sum, .int .i64 r.mn, .int .i64 r.mx, .int .i64 r.fst, .int .i64 r.lst], .int .i64 0]) (by simp [results, Tryz.results39, go_sem, *]) rfl ⟨r, 0, rfl, .inl ⟨rfl, HR.out⟩, ?_⟩
    rw [Hx0.out]
    repeat' first | (with_reducible exact b3) | (with_reducible refine Below.alloc ?_ (by simp only [size_setCell]; omega) _) | (with_reducible refine Below.setCell ?_ (by first | exact Nat.le_refl _ | (show x0 ≤ x0; omega)) _)
  · have d0 : (tier == 0) = false := by simpa using h0
    have H0 := Lib.hid h0; clear h0
    go_enter Tryz.func39, Tryz.ntmps39
    go_wp2_with fail
    obtain ⟨W, hW⟩ : ∃ W, W = w.alloc (.cells #[.int .i64 0, .int .i64 0, .int .i64 0, .int .i64 0, .int .i64 0, .int .i64 0] 26) := ⟨_, rfl⟩
    have q0 : ZBox W w.heap.size := by rw [hW]; exact ZBox.new w 26
    have b0 : Below w.heap.size w W := by rw [hW]; exact bal (Below.refl _ _) _
    have s0 : w.heap.size < W.heap.size := by rw [hW]; simp
    rw [← hW]
    clear hW
    have Q0 := Lib.hid q0; clear q0
    refine (readBuckets_any t W (by omega) (HEP.out _ b0).1 (HEP.out _ b0).2.1 (HEP.out _ b0).2.2).mono ?_
    generalize hx0 : w.heap.size = x0 at *
    have Hx0 := Lib.hid hx0; clear hx0
    rintro x w1 ⟨A, k, xs, cd, rfl, hc, ho, hb1⟩
    have b1 : Below x0 w w1 := b0.trans (hb1.mono (by omega))
    have Q1 := Lib.hid (Q0.out.below hb1 s0)
    have s1 : x0 < w1.heap.size := by have := hb1.size; omega
    obtain ⟨hsl, _, _, hck⟩ := OwnSl.sl ho (fun x => rfl)
    have HSL := Lib.hid hsl; have HA := Lib.hid (OwnSl.addr ho)
    clear Q0 hb1 b0 s0 hsl ho
    rcases hc with ⟨h, _⟩ | ⟨_, hR, rfl⟩ | ⟨_, hN, rfl, rfl⟩
    · omega
    rotate_left
    · have HR := Lib.hid (show WinNo tier t from .inr ⟨H0.out, .inl hN⟩)
      clear hN HSL HA
      obtain ⟨z0, z1, z2, z3, z4, z5⟩ := Q1.out.1
      have y0 := Q1.out.2 0
      have y1 := Q1.out.2 1
      have y2 := Q1.out.2 2
      have y3 := Q1.out.2 3
      have y4 := Q1.out.2 4
      have y5 := Q1.out.2 5
      go_wp2
      refine bodyPost_ret (v := .tuple #[.agg #[.int .i64 0, .int .i64 0, .int .i64 0, .int .i64 0, .int .i64 0, .int .i64 0], .int .i64 3]) (by simp [results, Tryz.results39, go_sem, *]) rfl ⟨zAgg, 3, rfl, .inr ⟨by omega, HR.out⟩, ?_⟩
      rw [Hx0.out]
      repeat' first | (with_reducible exact b1) | (with_reducible refine Below.alloc ?_ (by simp only [size_setCell]; omega) _) | (with_reducible refine Below.setCell ?_ (by first | exact Nat.le_refl _ | (show x0 ≤ x0; omega)) _)
    have HRd := Lib.hid hR; clear hR
    have hlen : xs.length ≤ 8 := HRd.out.1.1
    go_wp2_with fail
    refine (foldRangeA_any A k xs f u w1.heap.size w1 HSL.out (Nat.le_refl _) (by omega) hck HA.out).mono ?_
    rintro x w3 ⟨r, cd, rfl, ha, hb3⟩
    have HR : Hid ((cd = 0 ∧ WinV tier t f u r) ∨ (cd ≠ 0 ∧ WinNo tier t)) := Lib.hid (by
      rcases ha with ⟨h, _⟩ | ⟨_, h, _⟩ | ⟨_, h, _⟩ | ⟨_, _, h, _, rfl⟩ | ⟨_, _, h1, h2, rfl⟩
      · omega
      · exact absurd HRd.out.1 h
      · rw [Hr.out] at h; cases h
      · exact .inr ⟨by omega, .inr ⟨H0.out, .inr ⟨xs, HRd.out, h⟩⟩⟩
      · exact .inl ⟨rfl, .inr ⟨H0.out, xs, HRd.out, h1, h2⟩⟩)
    have b3 : Below x0 w w3 := b1.trans (hb3.mono (by omega))
    have Q3 := Lib.hid (Q1.out.below hb3 s1)
    clear ha hb3 Q1 b1 s1 HSL HA
    obtain ⟨z0, z1, z2, z3, z4, z5⟩ := Q3.out.1
    have y0 := Q3.out.2 0
    have y1 := Q3.out.2 1
    have y2 := Q3.out.2 2
    have y3 := Q3.out.2 3
    have y4 := Q3.out.2 4
    have y5 := Q3.out.2 5
    go_wp2
    refine bodyPost_ret (v := .tuple #[.agg #[.int .i64 r.cnt, .int .i64 r.sum, .int .i64 r.mn, .int .i64 r.mx, .int .i64 r.fst, .int .i64 r.lst], .int .i64 cd]) (by simp [results, Tryz.results39, go_sem, *]) rfl ⟨r, cd, rfl, HR.out, ?_⟩
    rw [Hx0.out]
    repeat' first | (with_reducible exact b3) | (with_reducible refine Below.alloc ?_ (by simp only [size_setCell]; omega) _) | (with_reducible refine Below.setCell ?_ (by first | exact Nat.le_refl _ | (show x0 ≤ x0; omega)) _)

set_option maxRecDepth 100000 in
set_option maxHeartbeats 2000000 in
theorem windowOf_any (e : GEnt) (t : ByteArray) (f u : Int) (w : World) (hk : e.key.size ≤ 1048576) (ht : t.size ≤ 2 ^ 63 - 1) (hE : Errs w) (hP : Pow w) (hM : MaxL w) (hp : Paths w) (hz : 1 < w.heap.size) :
    Calls Tryz.prog 10 #[.agg #[.int .i64 e.tier, .int .i64 e.beg, .int .i64 e.fin, .string e.key], .string t, .int .i64 f, .int .i64 u] w fun x w' => ∃ r cd, x = .returned (.tuple #[.agg #[.int .i64 r.cnt, .int .i64 r.sum, .int .i64 r.mn, .int .i64 r.mx, .int .i64 r.fst, .int .i64 r.lst], .int .i64 cd]) ∧ WinR e t f u r cd ∧ Below w.heap.size w w' := by
  have hEP := fun w' (h : Below w.heap.size w w') => (show Errs w' ∧ Pow w' ∧ MaxL w' ∧ Paths w' ∧ 1 < w'.heap.size from ⟨hE.below h (Nat.le_refl _), hP.below h (Nat.le_refl _), hM.below h (Nat.le_refl _), hp.below h hz, Nat.lt_of_lt_of_le hz h.size⟩)
  have HEP := Lib.hid hEP; clear hEP hE hP hM hp hz
  go_enter Tryz.func10, Tryz.ntmps10
  go_wp2_with fail
  obtain ⟨W0, hW0⟩ : ∃ W, W = (w.alloc (.cells #[.int .i64 e.tier, .int .i64 e.beg, .int .i64 e.fin, .string e.key] 29)).alloc (.cells #[.int .i64 0, .int .i64 0, .int .i64 0, .int .i64 0, .int .i64 0, .int .i64 0] 26) := ⟨_, rfl⟩
  have q0 : ZBox W0 (w.heap.size + 1) := by rw [hW0]; simpa using ZBox.new (w.alloc (.cells #[.int .i64 e.tier, .int .i64 e.beg, .int .i64 e.fin, .string e.key] 29)) 26
  have t0 : Cells W0 w.heap.size 0 [.int .i64 e.tier, .int .i64 e.beg, .int .i64 e.fin, .string e.key] := by rw [hW0]; exact (Cells.new w _ _).below (bal (Below.refl _ _) _) (by simp)
  have b0 : Below w.heap.size w W0 := by rw [hW0]; exact bal (bal (Below.refl _ _) _) _
  have s0 : w.heap.size + 2 = W0.heap.size := by rw [hW0]; simp
  rw [← hW0]
  clear hW0
  have hc : (W0.alloc (.cells #[.string t] 9)).cell? ⟨w.heap.size + 1 + 1, 0, none⟩ = some (.string t) := by rw [show w.heap.size + 1 + 1 = W0.heap.size from by omega]; simp
  have hb01 : Below W0.heap.size W0 (W0.alloc (.cells #[.string t] 9)) := bal (Below.refl _ _) _
  generalize W0.alloc (.cells #[.string t] 9) = W at *
  have b0' : Below w.heap.size w W := b0.trans (hb01.mono (by omega))
  have Q0 := Lib.hid (q0.below hb01 (by omega))
  have T0 := Lib.hid (t0.below hb01 (by omega))
  have s0' : w.heap.size + 1 < W.heap.size := by have := hb01.size; omega
  clear q0 t0 b0 s0 hb01
  generalize hx0 : w.heap.size = x0 at *
  have Hx0 := Lib.hid hx0; clear hx0
  refine (tooLong_any (x0 + 1 + 1) t W hc ht).mono ?_
  rintro x w9 ⟨rfl, rfl⟩
  clear hc
  cases hl : decide (65536 < (t.size : Int))
  rotate_left
  · have HR := Lib.hid (show WinR e t f u zAgg 2 from .inl ⟨by simp at hl; omega, rfl, rfl⟩)
    clear hl
    obtain ⟨z0, z1, z2, z3, z4, z5⟩ := Q0.out.1
    have y0 := Q0.out.2 0
    have y1 := Q0.out.2 1
    have y2 := Q0.out.2 2
    have y3 := Q0.out.2 3
    have y4 := Q0.out.2 4
    have y5 := Q0.out.2 5
    go_wp2
    refine bodyPost_ret (v := .tuple #[.agg #[.int .i64 0, .int .i64 0, .int .i64 0, .int .i64 0, .int .i64 0, .int .i64 0], .int .i64 2]) (by simp [results, Tryz.results10, go_sem, *]) rfl ⟨zAgg, 2, rfl, HR.out, ?_⟩
    rw [Hx0.out]
    repeat' first | (with_reducible exact b0') | (with_reducible refine Below.alloc ?_ (by simp only [size_setCell]; omega) _) | (with_reducible refine Below.setCell ?_ (by first | exact Nat.le_refl _ | (show x0 ≤ x0 + 1; omega)) _)
  have HL : Hid (t.size ≤ 65536) := Lib.hid (by simp at hl; omega)
  clear hl
  obtain ⟨p0, p1, p2, p3⟩ := four T0.out
  go_wp2_with fail
  refine (entRight_any e W (by omega) (HEP.out _ b0').2.2.2.1 (HEP.out _ b0').2.2.2.2).mono ?_
  rintro x w1 ⟨b, hb, rfl, hb1⟩
  have b1 : Below x0 w w1 := b0'.trans (hb1.mono (by omega))
  have Q1 := Lib.hid (Q0.out.below hb1 s0')
  have T1 := Lib.hid (T0.out.below hb1 (by omega))
  have s1 : x0 + 1 < w1.heap.size := by have := hb1.size; omega
  clear Q0 T0 hb1 b0' s0' p0 p1 p2 p3
  cases b
  · have HR := Lib.hid (show WinR e t f u zAgg 1 from .inr (.inl ⟨HL.out, (fun h => by have := hb.2 h; cases this), rfl, rfl⟩))
    clear hb
    obtain ⟨z0, z1, z2, z3, z4, z5⟩ := Q1.out.1
    have y0 := Q1.out.2 0
    have y1 := Q1.out.2 1
    have y2 := Q1.out.2 2
    have y3 := Q1.out.2 3
    have y4 := Q1.out.2 4
    have y5 := Q1.out.2 5
    go_wp2
    refine bodyPost_ret (v := .tuple #[.agg #[.int .i64 0, .int .i64 0, .int .i64 0, .int .i64 0, .int .i64 0, .int .i64 0], .int .i64 1]) (by simp [results, Tryz.results10, go_sem, *]) rfl ⟨zAgg, 1, rfl, HR.out, ?_⟩
    rw [Hx0.out]
    repeat' first | (with_reducible exact b1) | (with_reducible refine Below.alloc ?_ (by simp only [size_setCell]; omega) _) | (with_reducible refine Below.setCell ?_ (by first | exact Nat.le_refl _ | (show x0 ≤ x0 + 1; omega)) _)
  have HE : Hid (EntP e) := Lib.hid (hb.1 rfl)
  clear hb
  go_wp2_with fail
  refine (isRange_any f u _).mono ?_
  rintro x w' ⟨rfl, rfl⟩
  cases hr : rngB f u
  · have HR := Lib.hid (show WinR e t f u zAgg 4 from .inr (.inr (.inl ⟨HL.out, HE.out, hr, rfl, rfl⟩)))
    clear hr
    obtain ⟨z0, z1, z2, z3, z4, z5⟩ := Q1.out.1
    have y0 := Q1.out.2 0
    have y1 := Q1.out.2 1
    have y2 := Q1.out.2 2
    have y3 := Q1.out.2 3
    have y4 := Q1.out.2 4
    have y5 := Q1.out.2 5
    go_wp2
    refine bodyPost_ret (v := .tuple #[.agg #[.int .i64 0, .int .i64 0, .int .i64 0, .int .i64 0, .int .i64 0, .int .i64 0], .int .i64 4]) (by simp [results, Tryz.results10, go_sem, *]) rfl ⟨zAgg, 4, rfl, HR.out, ?_⟩
    rw [Hx0.out]
    repeat' first | (with_reducible exact b1) | (with_reducible refine Below.alloc ?_ (by simp only [size_setCell]; omega) _) | (with_reducible refine Below.setCell ?_ (by first | exact Nat.le_refl _ | (show x0 ≤ x0 + 1; omega)) _)
  have Hr := Lib.hid hr; clear hr
  obtain ⟨p0, p1, p2, p3⟩ := four T1.out
  go_wp2_with fail
  refine (foldData_any e.tier t f u Hr.out HL.out w1 (HEP.out _ b1).1 (HEP.out _ b1).2.1 (HEP.out _ b1).2.2.1).mono ?_
  rintro x w2 ⟨r, cd, rfl, hv, hb2⟩
  have b2 : Below x0 w w2 := b1.trans (hb2.mono (by omega))
  have Q2 := Lib.hid (Q1.out.below hb2 s1)
  have s2 : x0 + 1 < w2.heap.size := by have := hb2.size; omega
  have HV := Lib.hid hv
  clear Q1 T1 hb2 b1 s1 hv p0 p1 p2 p3
  by_cases hc0 : cd = 0
  rotate_left
  · have dc : (cd != 0) = true := by simpa using hc0
    have dc2 : (cd == 0) = false := by simpa using hc0
    have HR := Lib.hid (show WinR e t f u zAgg 17 from .inr (.inr (.inr (.inl ⟨HL.out, HE.out, Hr.out, (by rcases HV.out with ⟨h, _⟩ | ⟨_, h⟩; (· exact absurd h hc0); (· exact h)), rfl, rfl⟩))))
    clear HV hc0
    obtain ⟨z0, z1, z2, z3, z4, z5⟩ := Q2.out.1
    have y0 := Q2.out.2 0
    have y1 := Q2.out.2 1
    have y2 := Q2.out.2 2
    have y3 := Q2.out.2 3
    have y4 := Q2.out.2 4
    have y5 := Q2.out.2 5
    go_wp2
    refine bodyPost_ret (v := .tuple #[.agg #[.int .i64 0, .int .i64 0, .int .i64 0, .int .i64 0, .int .i64 0, .int .i64 0], .int .i64 17]) (by simp [results, Tryz.results10, go_sem, *]) rfl ⟨zAgg, 17, rfl, HR.out, ?_⟩
    rw [Hx0.out]
    repeat' first | (with_reducible exact b2) | (with_reducible refine Below.alloc ?_ (by simp only [size_setCell]; omega) _) | (with_reducible refine Below.setCell ?_ (by first | exact Nat.le_refl _ | (show x0 ≤ x0 + 1; omega)) _)
  have dc : (cd != 0) = false := by simpa using hc0
  have dc2 : (cd == 0) = true := by simpa using hc0
  have HR := Lib.hid (show WinR e t f u r 0 from .inr (.inr (.inr (.inr ⟨HL.out, HE.out, Hr.out, (by rcases HV.out with ⟨_, h⟩ | ⟨h, _⟩; (· exact h); (· exact absurd hc0 h)), rfl⟩))))
  clear HV hc0
  obtain ⟨z0, z1, z2, z3, z4, z5⟩ := Q2.out.1
  have y0 := Q2.out.2 0
  have y1 := Q2.out.2 1
  have y2 := Q2.out.2 2
  have y3 := Q2.out.2 3
  have y4 := Q2.out.2 4
  have y5 := Q2.out.2 5
  go_wp2
  refine bodyPost_ret (v := .tuple #[.agg #[.int .i64 r.cnt, .int .i64 r.sum, .int .i64 r.mn, .int .i64 r.mx, .int .i64 r.fst, .int .i64 r.lst], .int .i64 0]) (by simp [results, Tryz.results10, go_sem, *]) rfl ⟨r, 0, rfl, HR.out, ?_⟩
  rw [Hx0.out]
  repeat' first | (with_reducible exact b2) | (with_reducible refine Below.alloc ?_ (by simp only [size_setCell]; omega) _) | (with_reducible refine Below.setCell ?_ (by first | exact Nat.le_refl _ | (show x0 ≤ x0 + 1; omega)) _)

end Go.Proofs.YtpackpocnonpiaaGreatDoor

/- What a record that is handed in is: six cells that are five numbers and a text. No Go text is walked here. -/
namespace Go.Proofs.YtpackpocnonpiaaGreatDoor
open Go.ChangeShapes Go.WideShapes Go.ChangeAt Go.RowKit Go.Deep Go.Joins
set_option linter.unusedVariables false
set_option linter.unusedSimpArgs false

section

variable {H : Type} {enc : TypeId × Value → H} {base : Nat} {spare : Nat → Bool} {held : Bool}

theorem trod_fields {P : Program} {w : World} {t : TypeId} {fs : Array Field} {fuel : Nat} {cs : List Value} {x : DataW H × List MemPlace} (ht : P.underlying t = some (.struct fs)) (h : DataW.trod enc P w base spare held fuel t cs = some x) :
    cs.length = P.cellsOf t ∧ ∃ n, ∀ (i : Nat) (f : Field), fs[i]? = some f → ∃ y, DataW.trod enc P w base spare held n f.type ((cs.drop f.offset).take (P.cellsOf f.type)) = some y := by
  obtain ⟨xs, n, _, rfl, hl, hlen, hf⟩ := DataW.trod_struct ht h
  refine ⟨hl, n, fun i f hi => ?_⟩
  have h1 := hf i f hi
  have hil : i < xs.length := by
    rw [hlen]
    exact (Array.getElem?_eq_some_iff.1 hi).1
  rw [List.getElem?_eq_getElem hil] at h1
  exact ⟨_, h1⟩

theorem open_rec' {P : Program} {w : World} {t : TypeId} {f0 f1 f2 f3 f4 f5 : Field} {n : Nat} {cs : List Value} {y : DataW H × List MemPlace} (ht : P.underlying t = some (.struct #[f0, f1, f2, f3, f4, f5])) (hone : oneCellFields P #[f0, f1, f2, f3, f4, f5] = true)
    (g0 : P.underlying f0.type = some (.int .i64)) (g1 : P.underlying f1.type = some (.int .i64)) (g2 : P.underlying f2.type = some (.int .i64)) (g3 : P.underlying f3.type = some (.int .i64)) (g4 : P.underlying f4.type = some (.int .i64)) (g5 : P.underlying f5.type = some .string) (hl : cs.length = 6) (h : DataW.trod enc P w base spare held n t cs = some y) : ∃ o : GRec, cs = o.vals ∧ o.fit := by
  obtain ⟨_, m, hf⟩ := trod_fields ht h
  obtain ⟨y0, h0⟩ := hf 0 f0 rfl
  obtain ⟨o0, k0⟩ := hone_of hone 0 f0 rfl
  rw [o0, k0] at h0
  obtain ⟨y1, h1⟩ := hf 1 f1 rfl
  obtain ⟨o1, k1⟩ := hone_of hone 1 f1 rfl
  rw [o1, k1] at h1
  obtain ⟨y2, h2⟩ := hf 2 f2 rfl
  obtain ⟨o2, k2⟩ := hone_of hone 2 f2 rfl
  rw [o2, k2] at h2
  obtain ⟨y3, h3⟩ := hf 3 f3 rfl
  obtain ⟨o3, k3⟩ := hone_of hone 3 f3 rfl
  rw [o3, k3] at h3
  obtain ⟨y4, h4⟩ := hf 4 f4 rfl
  obtain ⟨o4, k4⟩ := hone_of hone 4 f4 rfl
  rw [o4, k4] at h4
  obtain ⟨y5, h5⟩ := hf 5 f5 rfl
  obtain ⟨o5, k5⟩ := hone_of hone 5 f5 rfl
  rw [o5, k5] at h5
  match cs, hl with
  | [x0, x1, x2, x3, x4, x5], _ =>
    obtain ⟨z0, e0, _, l0⟩ := DataW.trod_int g0 h0
    obtain ⟨z1, e1, _, l1⟩ := DataW.trod_int g1 h1
    obtain ⟨z2, e2, _, l2⟩ := DataW.trod_int g2 h2
    obtain ⟨z3, e3, _, l3⟩ := DataW.trod_int g3 h3
    obtain ⟨z4, e4, _, l4⟩ := DataW.trod_int g4 h4
    obtain ⟨z5, e5, _, l5⟩ := DataW.trod_string g5 h5
    simp at e0 e1 e2 e3 e4 e5
    subst e0 e1 e2 e3 e4 e5
    exact ⟨⟨z0, z1, z2, z3, z4, z5⟩, rfl, i64_of_wf l0, i64_of_wf l1, i64_of_wf l2, i64_of_wf l3, i64_of_wf l4, l5⟩

/-- a record that came in -/
theorem open_rec0 {P : Program} {t : TypeId} {f0 f1 f2 f3 f4 f5 : Field} {W : World} {r : Reach} {b0 : Nat} {v : Value} {d : DataW H} {p : List MemPlace} (ht : P.underlying t = some (.struct #[f0, f1, f2, f3, f4, f5])) (hone : oneCellFields P #[f0, f1, f2, f3, f4, f5] = true) (hC : P.cellsOf t = 6)
    (g0 : P.underlying f0.type = some (.int .i64)) (g1 : P.underlying f1.type = some (.int .i64)) (g2 : P.underlying f2.type = some (.int .i64)) (g3 : P.underlying f3.type = some (.int .i64)) (g4 : P.underlying f4.type = some (.int .i64)) (g5 : P.underlying f5.type = some .string)
    (hv : Value.okWide P W r b0 t v) (h : DataW.Trod enc P W base spare held t v d p) : ∃ a : GRec, v = .agg #[.int .i64 a.kind, .int .i64 a.tok, .int .i64 a.tier, .int .i64 a.beg, .int .i64 a.fin, .string a.key] ∧ a.fit := by
  obtain ⟨cs, rfl, hsz⟩ := okWide_struct ht hv
  obtain ⟨fuel, hf⟩ := h
  obtain ⟨l⟩ := cs
  simp only [Value.cells] at hf
  obtain ⟨a, e, hfit⟩ := open_rec' ht hone g0 g1 g2 g3 g4 g5 (by have := (trod_fields ht hf).1; rw [hC] at this; exact this) hf
  subst e
  exact ⟨a, rfl, hfit⟩

theorem cellsLRec : Tryz.prog.cellsOf 39 = 6 := by kernel_rfl

set_option maxRecDepth 100000 in
theorem open_lrec {W : World} {r : Reach} {b0 : Nat} {v : Value} {d : DataW H} {p : List MemPlace} (hv : Value.okWide Tryz.prog W r b0 39 v) (h : DataW.Trod enc Tryz.prog W base spare held 39 v d p) :
    ∃ a : GRec, v = .agg #[.int .i64 a.kind, .int .i64 a.tok, .int .i64 a.tier, .int .i64 a.beg, .int .i64 a.fin, .string a.key] ∧ a.fit :=
  open_rec0 Tryz.underlying39 (by kernel_rfl) cellsLRec Tryz.underlying3 Tryz.underlying3 Tryz.underlying3 Tryz.underlying3 Tryz.underlying3 Tryz.underlying9 hv h

end

end Go.Proofs.YtpackpocnonpiaaGreatDoor

/- What an entry that is handed in is: four cells that are three numbers and a text. No Go text is walked here. -/
namespace Go.Proofs.YtpackpocnonpiaaGreatDoor
open Go.ChangeShapes Go.WideShapes Go.ChangeAt Go.RowKit Go.Deep Go.Joins
set_option linter.unusedVariables false
set_option linter.unusedSimpArgs false

section

variable {H : Type} {enc : TypeId × Value → H} {base : Nat} {spare : Nat → Bool} {held : Bool}

theorem open_entE {P : Program} {w : World} {t : TypeId} {f0 f1 f2 f3 : Field} {n : Nat} {cs : List Value} {y : DataW H × List MemPlace} (ht : P.underlying t = some (.struct #[f0, f1, f2, f3])) (hone : oneCellFields P #[f0, f1, f2, f3] = true)
    (g0 : P.underlying f0.type = some (.int .i64)) (g1 : P.underlying f1.type = some (.int .i64)) (g2 : P.underlying f2.type = some (.int .i64)) (g3 : P.underlying f3.type = some .string) (hl : cs.length = 4) (h : DataW.trod enc P w base spare held n t cs = some y) : ∃ o : GEnt, cs = o.vals ∧ o.fit := by
  obtain ⟨_, m, hf⟩ := trod_fields ht h
  obtain ⟨y0, h0⟩ := hf 0 f0 rfl
  obtain ⟨o0, k0⟩ := hone_of hone 0 f0 rfl
  rw [o0, k0] at h0
  obtain ⟨y1, h1⟩ := hf 1 f1 rfl
  obtain ⟨o1, k1⟩ := hone_of hone 1 f1 rfl
  rw [o1, k1] at h1
  obtain ⟨y2, h2⟩ := hf 2 f2 rfl
  obtain ⟨o2, k2⟩ := hone_of hone 2 f2 rfl
  rw [o2, k2] at h2
  obtain ⟨y3, h3⟩ := hf 3 f3 rfl
  obtain ⟨o3, k3⟩ := hone_of hone 3 f3 rfl
  rw [o3, k3] at h3
  match cs, hl with
  | [x0, x1, x2, x3], _ =>
    obtain ⟨z0, e0, _, l0⟩ := DataW.trod_int g0 h0
    obtain ⟨z1, e1, _, l1⟩ := DataW.trod_int g1 h1
    obtain ⟨z2, e2, _, l2⟩ := DataW.trod_int g2 h2
    obtain ⟨z3, e3, _, l3⟩ := DataW.trod_string g3 h3
    simp at e0 e1 e2 e3
    subst e0 e1 e2 e3
    exact ⟨⟨z0, z1, z2, z3⟩, rfl, i64_of_wf l0, i64_of_wf l1, i64_of_wf l2, l3⟩

theorem open_ent0 {P : Program} {t : TypeId} {f0 f1 f2 f3 : Field} {W : World} {r : Reach} {b0 : Nat} {v : Value} {d : DataW H} {p : List MemPlace} (ht : P.underlying t = some (.struct #[f0, f1, f2, f3])) (hone : oneCellFields P #[f0, f1, f2, f3] = true) (hC : P.cellsOf t = 4)
    (g0 : P.underlying f0.type = some (.int .i64)) (g1 : P.underlying f1.type = some (.int .i64)) (g2 : P.underlying f2.type = some (.int .i64)) (g3 : P.underlying f3.type = some .string)
    (hv : Value.okWide P W r b0 t v) (h : DataW.Trod enc P W base spare held t v d p) : ∃ a : GEnt, v = .agg #[.int .i64 a.tier, .int .i64 a.beg, .int .i64 a.fin, .string a.key] ∧ a.fit := by
  obtain ⟨cs, rfl, hsz⟩ := okWide_struct ht hv
  obtain ⟨fuel, hf⟩ := h
  obtain ⟨l⟩ := cs
  simp only [Value.cells] at hf
  obtain ⟨a, e, hfit⟩ := open_entE ht hone g0 g1 g2 g3 (by have := (trod_fields ht hf).1; rw [hC] at this; exact this) hf
  subst e
  exact ⟨a, rfl, hfit⟩

theorem cellsLEnt : Tryz.prog.cellsOf 23 = 4 := by kernel_rfl

set_option maxRecDepth 100000 in
theorem open_lent {W : World} {r : Reach} {b0 : Nat} {v : Value} {d : DataW H} {p : List MemPlace} (hv : Value.okWide Tryz.prog W r b0 23 v) (h : DataW.Trod enc Tryz.prog W base spare held 23 v d p) :
    ∃ a : GEnt, v = .agg #[.int .i64 a.tier, .int .i64 a.beg, .int .i64 a.fin, .string a.key] ∧ a.fit :=
  open_ent0 Tryz.underlying23 (by kernel_rfl) cellsLEnt Tryz.underlying3 Tryz.underlying3 Tryz.underlying3 Tryz.underlying9 hv h

end

end Go.Proofs.YtpackpocnonpiaaGreatDoor

/- The library's tables as the program's text lays them: from the condition of a row to what the contracts ask; a world that holds them. -/
namespace Go.Proofs.YtpackpocnonpiaaGreatDoor
open Go.ChangeShapes Go.WideShapes Go.ChangeAt Go.RowKit
set_option linter.unusedVariables false

theorem own : ownKnob Tryz.prog.godebug = none := by kernel_rfl
theorem laidOut : laidOutB Tryz.prog = true := by kernel_rfl

theorem pow_data : (Rows.laid_internal_strconv_uint64pow10 : DataW Unit) = Lib.tabData .u64 Lib.pow10Tab := by rfl

theorem powG : Tryz.prog.globalNamed "internal/strconv.uint64pow10" = some 3 := by kernel_rfl
theorem powT : (Tryz.prog.globals[3]?).map (·.type) = some 289 := by kernel_rfl
theorem powC : Tryz.prog.cellsOf 289 = 20 := by kernel_rfl
theorem powE : Tryz.prog.cellsOf 270 = 1 := by kernel_rfl

theorem pow_of {W : World} {n1 n2 : String} {d1 d2 : DataW Unit} {rest : List (String × DataW Unit)} (h : laidMet Tryz.prog ((n1, d1) :: (n2, d2) :: ("internal/strconv.uint64pow10", Rows.laid_internal_strconv_uint64pow10) :: rest) W) : Pow W := by
  obtain ⟨ps, ⟨g1, t1, cs1, f1, p1, q1, _, _, _, _, ⟨g2, t2, cs2, f2, p2, q2, _, _, _, _, ⟨g', t', cs, fuel, p, q, hg', ht', hvar, hd, _, _⟩, _⟩, _⟩, _⟩ := h
  obtain rfl := Option.some.inj (powG.symm.trans hg')
  obtain rfl := Option.some.inj (powT.symm.trans ht')
  rw [pow_data] at hd
  unfold Pow Lib.TabIs
  rw [hvar, ← Lib.cells_of_tab Tryz.underlying289 Tryz.underlying270 powE powC hd]

/-- the cells that a table's datum is -/
def tabCells : DataW Unit → Array Value
  | .agg l => (l.map fun | .lit (.int k z) => Value.int k z | _ => .nilIface).toArray
  | _ => #[]

/-- what a table is laid as -/
def layTab (d : DataW Unit) : Obj → Obj
  | .cells _ t frozen => .cells (tabCells d) t frozen
  | o => o

/-- a world that holds the three tables -/
noncomputable def laidWorld (os : Os) : World :=
  { World.holding Tryz.prog os ⟨#[], #[], []⟩ with heap := (((World.holding Tryz.prog os ⟨#[], #[], []⟩).heap.modify 3 (layTab Rows.laid_internal_strconv_uint64pow10)).modify 8 (layTab Rows.laid_math_bits_deBruijn32tab)).modify 9 (layTab Rows.laid_math_bits_deBruijn64tab) }

end Go.Proofs.YtpackpocnonpiaaGreatDoor

/- The library's tables and the program's paths of tiers as their texts lay them: from the condition of a row to what the contracts ask; a world that holds them; the variable reads behind the call as it read before. -/
namespace Go.Proofs.YtpackpocnonpiaaGreatDoor
open Go.ChangeShapes Go.WideShapes Go.ChangeAt Go.RowKit
set_option linter.unusedVariables false

theorem gTab : Tryz.prog.globalNamed "loop.example/g00601/impl.tierPaths" = some 1 := by kernel_rfl
theorem gTabType : (Tryz.prog.globals[1]?).map (·.type) = some 246 := by kernel_rfl
theorem cellsTab : Tryz.prog.cellsOf 246 = 3 := by kernel_rfl
theorem cellsStr : Tryz.prog.cellsOf 9 = 1 := by kernel_rfl

theorem bytes_inj {s : ByteArray} {z : List UInt8} (h : s.data.toList = z) : s = ⟨z.toArray⟩ := by
  subst h; rfl

/-- an array of texts that reads as a list of texts holds them, cell for cell -/
theorem cells_of_texts {H : Type} {enc : TypeId × Value → H} {P : Program} {w : World} {base : Nat} {sp : Nat → Bool} {held : Bool} {fuel : Nat} {t e : TypeId} {n : Nat} {cs : List Value} {zs : List (List UInt8)} {p : List MemPlace}
    (ht : P.underlying t = some (.array n e)) (he : P.underlying e = some .string) (hce : P.cellsOf e = 1) (hct : P.cellsOf t = n)
    (h : DataW.trod enc P w base sp held fuel t cs = some (.agg (zs.map fun z => .lit (.string z)), p)) : cs = zs.map fun z => Value.string ⟨z.toArray⟩ := by
  cases fuel with
  | zero => simp [DataW.trod] at h
  | succ fuel =>
    simp only [DataW.trod, ht, hce, hct, Nat.mul_one] at h
    split at h
    · rename_i hl
      obtain ⟨xs, hm, hx⟩ := Option.map_eq_some_iff.1 h
      have hxs : xs.map (·.1) = zs.map fun z => (DataW.lit (.string z) : DataW H) := by
        have := congrArg Prod.fst hx
        simpa using this
      have hxl : xs.length = n := by simpa using Lib.mapM_length hm
      have hzl : zs.length = n := by
        have := congrArg List.length hxs
        simp at this
        omega
      apply List.ext_getElem?
      intro i
      by_cases hi : i < n
      · obtain ⟨b, hb, hf⟩ := Lib.mapM_at hm i i (by simp [hi])
        obtain ⟨s, hc, rfl, _⟩ := DataW.trod_string he hf
        have h1 : cs[i]? = some (.string s) := by
          have := congrArg (·[0]?) hc
          simpa [List.getElem?_take, List.getElem?_drop] using this
        have h2 : (xs.map (·.1))[i]? = some (DataW.lit (.string s.data.toList) : DataW H) := by simp [hb]
        rw [hxs] at h2
        simp only [List.getElem?_map, Option.map_eq_some_iff, DataW.lit.injEq, Lit.string.injEq] at h2
        obtain ⟨z', hz', e1⟩ := h2
        have e2 : s = ⟨z'.toArray⟩ := bytes_inj e1.symm
        simp [h1, hz', e2]
      · rw [List.getElem?_eq_none (by omega), List.getElem?_eq_none (by simp; omega)]
    · cases h

/-- the paths, byte by byte -/
def pl : List (List UInt8) := [[114, 97, 119, 47], [116, 49, 47], [116, 50, 47]]

theorem paths_cells {W : World} {cs : Array Value} (hvar : W.var? Tryz.prog "loop.example/g00601/impl.tierPaths" = some cs) (hcs : cs.toList = pl.map fun z => Value.string ⟨z.toArray⟩) : Paths W ∧ 1 < W.heap.size := by
  have hp : Paths W := by
    intro i hi
    have hv := World.var?_cell gTab hvar i
    rw [hv]
    have : cs[i]? = cs.toList[i]? := by simp
    rw [this, hcs]
    match i, hi with
    | 0, _ => rfl
    | 1, _ => rfl
    | 2, _ => rfl
  exact ⟨hp, World.block_lt_of_cell? W ⟨1, 0, none⟩ (hp 0 (by omega))⟩

theorem paths_of1 {W : World} (h : laidMet Tryz.prog [("loop.example/g00601/impl.tierPaths", Rows.laid_loop_example_g00601_impl_tierPaths)] W) : Paths W ∧ 1 < W.heap.size := by
  obtain ⟨ps, ⟨g', t', cs, fuel, p, q, hg', ht', hvar, hd, _, _⟩, _⟩ := h
  obtain rfl := Option.some.inj (gTab.symm.trans hg')
  obtain rfl := Option.some.inj (gTabType.symm.trans ht')
  have hd' : DataW.trod (fun _ => ()) Tryz.prog W 0 (fun _ => true) false fuel 246 cs.toList = some (.agg (pl.map fun z => .lit (.string z)), p) := hd
  exact paths_cells hvar (cells_of_texts Tryz.underlying246 Tryz.underlying9 cellsStr cellsTab hd')

theorem paths_of4 {W : World} {n1 n2 n3 : String} {d1 d2 d3 : DataW Unit} (h : laidMet Tryz.prog [(n1, d1), (n2, d2), (n3, d3), ("loop.example/g00601/impl.tierPaths", Rows.laid_loop_example_g00601_impl_tierPaths)] W) : Paths W ∧ 1 < W.heap.size := by
  obtain ⟨ps, ⟨g1, t1, cs1, f1, p1, q1, _, _, _, _, ⟨g2, t2, cs2, f2, p2, q2, _, _, _, _, ⟨g3, t3, cs3, f3, p3, q3, _, _, _, _, ⟨g', t', cs, fuel, p, q, hg', ht', hvar, hd, _, _⟩, _⟩, _⟩, _⟩, _⟩ := h
  obtain rfl := Option.some.inj (gTab.symm.trans hg')
  obtain rfl := Option.some.inj (gTabType.symm.trans ht')
  have hd' : DataW.trod (fun _ => ()) Tryz.prog W 0 (fun _ => true) false fuel 246 cs.toList = some (.agg (pl.map fun z => .lit (.string z)), p) := hd
  exact paths_cells hvar (cells_of_texts Tryz.underlying246 Tryz.underlying9 cellsStr cellsTab hd')

/-- the variable reads behind the call as it read ahead of it -/
theorem vars_back {H : Type} {enc : TypeId × Value → H} {W W' : World} {gs : List (DataW H)} {q : List MemPlace} (h : DataW.TrodVars enc Tryz.prog W (fun _ => true) ["loop.example/g00601/impl.tierPaths"] gs q) (hb : Below W.heap.size W W') (h0 : 1 < W.heap.size) (hlt : ∀ x ∈ q, x.block < W.heap.size) :
    DataW.TrodVars enc Tryz.prog W' (fun b => decide (b < W.heap.size)) ["loop.example/g00601/impl.tierPaths"] gs q := by
  obtain ⟨g, t, cs, fuel, d, p, rfl, h1, h2, h3, h4, rfl⟩ := trodVars_one h
  obtain rfl := Option.some.inj (gTab.symm.trans h1)
  obtain rfl := Option.some.inj (gTabType.symm.trans h2)
  have k : DataW.Trod enc Tryz.prog W 0 (fun _ => true) true 246 (.agg cs) d p := ⟨fuel, h4⟩
  obtain ⟨fuel', h4'⟩ := Below.trod laidOut (by kernel_rfl) (of_decide_eq_true (by kernel_rfl)) k hb (fun x hx => hlt x (List.mem_append_right _ hx))
  exact trodVars_mk1 h1 h2 (var?_below hb gTab h0 h3) h4'

/-- the cells that a table's datum is -/
def tabCellsK : DataW Unit → Array Value
  | .agg l => (l.map fun | .lit (.int k z) => Value.int k z | .lit (.string z) => Value.string ⟨z.toArray⟩ | _ => .nilIface).toArray
  | _ => #[]

/-- what a table is laid as -/
def layTabK (d : DataW Unit) : Obj → Obj
  | .cells _ t frozen => .cells (tabCellsK d) t frozen
  | o => o

/-- a world that holds the tables -/
noncomputable def laidWorldK (os : Os) : World :=
  { World.holding Tryz.prog os ⟨#[], #[], []⟩ with heap := ((((World.holding Tryz.prog os ⟨#[], #[], []⟩).heap.modify 3 (layTabK Rows.laid_internal_strconv_uint64pow10)).modify 8 (layTabK Rows.laid_math_bits_deBruijn32tab)).modify 9 (layTabK Rows.laid_math_bits_deBruijn64tab)).modify 1 (layTabK Rows.laid_loop_example_g00601_impl_tierPaths) }

end Go.Proofs.YtpackpocnonpiaaGreatDoor

/- What a row ties, whichever of the tables it names: one of what is laid, by its name; the program's variables read behind the call as they read ahead of it; worlds that hold the tables. -/
namespace Go.Proofs.YtpackpocnonpiaaGreatDoor
open Go.ChangeShapes Go.WideShapes Go.ChangeAt Go.RowKit
set_option linter.unusedVariables false

theorem laidVars_at {P : Program} {W : World} : ∀ {L : List (String × DataW Unit)} {ps : List MemPlace}, DataW.LaidVars P W L ps → ∀ {n : String} {d : DataW Unit}, (n, d) ∈ L → ∃ g t cs fuel p, P.globalNamed n = some g ∧ (P.globals[g]?).map (·.type) = some t ∧ W.var? P n = some cs ∧ DataW.trod (fun _ => ()) P W 0 (fun _ => true) false fuel t cs.toList = some (d, p)
  | [], _, _, _, _, hm => by cases hm
  | (n', d') :: r, ps, h, n, d, hm => by
    obtain ⟨g, t, cs, fuel, p, q, h1, h2, h3, h4, h5, _⟩ := h
    rcases List.mem_cons.1 hm with e | hm
    · cases e; exact ⟨g, t, cs, fuel, p, h1, h2, h3, h4⟩
    · exact laidVars_at h5 hm

theorem laid_at {P : Program} {W : World} {L : List (String × DataW Unit)} (h : laidMet P L W) {n : String} {d : DataW Unit} (hm : (n, d) ∈ L) : ∃ g t cs fuel p, P.globalNamed n = some g ∧ (P.globals[g]?).map (·.type) = some t ∧ W.var? P n = some cs ∧ DataW.trod (fun _ => ()) P W 0 (fun _ => true) false fuel t cs.toList = some (d, p) := by
  obtain ⟨ps, h, _⟩ := h
  exact laidVars_at h hm

theorem paths_in {W : World} {L : List (String × DataW Unit)} (h : laidMet Tryz.prog L W) (hm : ("loop.example/g00601/impl.tierPaths", Rows.laid_loop_example_g00601_impl_tierPaths) ∈ L) : Paths W ∧ 1 < W.heap.size := by
  obtain ⟨g', t', cs, fuel, p, hg', ht', hvar, hd⟩ := laid_at h hm
  obtain rfl := Option.some.inj (gTab.symm.trans hg')
  obtain rfl := Option.some.inj (gTabType.symm.trans ht')
  have hd' : DataW.trod (fun _ => ()) Tryz.prog W 0 (fun _ => true) false fuel 246 cs.toList = some (.agg (pl.map fun z => .lit (.string z)), p) := hd
  exact paths_cells hvar (cells_of_texts Tryz.underlying246 Tryz.underlying9 cellsStr cellsTab hd')

theorem pow_in {W : World} {L : List (String × DataW Unit)} (h : laidMet Tryz.prog L W) (hm : ("internal/strconv.uint64pow10", Rows.laid_internal_strconv_uint64pow10) ∈ L) : Pow W := by
  obtain ⟨g', t', cs, fuel, p, hg', ht', hvar, hd⟩ := laid_at h hm
  obtain rfl := Option.some.inj (powG.symm.trans hg')
  obtain rfl := Option.some.inj (powT.symm.trans ht')
  rw [pow_data] at hd
  unfold Pow Lib.TabIs
  rw [hvar, ← Lib.cells_of_tab Tryz.underlying289 Tryz.underlying270 powE powC hd]

theorem gWidA : Tryz.prog.globalNamed "loop.example/g00601/impl.tierWidths" = some 0 := by kernel_rfl
theorem gWidTypeA : (Tryz.prog.globals[0]?).map (·.type) = some 35 := by kernel_rfl
theorem cellsTriA : Tryz.prog.cellsOf 35 = 3 := by kernel_rfl
theorem cellsIntA : Tryz.prog.cellsOf 3 = 1 := by kernel_rfl
theorem widDataA : (Rows.laid_loop_example_g00601_impl_tierWidths : DataW Unit) = Lib.tabData .i64 [1, 5, 20] := rfl

theorem wid_in {W : World} {L : List (String × DataW Unit)} (h : laidMet Tryz.prog L W) (hm : ("loop.example/g00601/impl.tierWidths", Rows.laid_loop_example_g00601_impl_tierWidths) ∈ L) : Tab3 0 wid W ∧ 0 < W.heap.size := by
  obtain ⟨g', t', cs, fuel, p, hg', ht', hvar, hd⟩ := laid_at h hm
  obtain rfl := Option.some.inj (gWidA.symm.trans hg')
  obtain rfl := Option.some.inj (gWidTypeA.symm.trans ht')
  rw [widDataA] at hd
  have hcs := Lib.cells_of_tab Tryz.underlying35 Tryz.underlying3 cellsIntA cellsTriA hd
  have hp : Tab3 0 wid W := by
    intro i hi
    rw [World.var?_cell gWidA hvar i]
    have : cs[i]? = cs.toList[i]? := by simp
    rw [this, hcs, List.getElem?_map]
    rcases three hi with rfl | rfl | rfl <;> rfl
  exact ⟨hp, World.block_lt_of_cell? W ⟨0, 0, none⟩ (hp 0 (by omega))⟩

/-- the program's variables read behind the call as they read ahead of it -/
theorem vars_backs {H : Type} {enc : TypeId × Value → H} {W W' : World} (hb : Below W.heap.size W W') : ∀ (ns : List String) (gs : List (DataW H)) (q : List MemPlace), (∀ n ∈ ns, ∃ g t, Tryz.prog.globalNamed n = some g ∧ (Tryz.prog.globals[g]?).map (·.type) = some t ∧ (t = 246 ∨ t = 35) ∧ g < W.heap.size) →
    DataW.TrodVars enc Tryz.prog W (fun _ => true) ns gs q → (∀ x ∈ q, x.block < W.heap.size) → DataW.TrodVars enc Tryz.prog W' (fun b => decide (b < W.heap.size)) ns gs q
  | [], [], q, _, h, _ => h
  | n :: ns, d :: gs, q, hn, h, hlt => by
    obtain ⟨g, t, cs, fuel, p, q', h1, h2, h3, h4, h5, rfl⟩ := h
    obtain ⟨g', t', e1, e2, et, hz⟩ := hn n (by simp)
    obtain rfl := Option.some.inj (e1.symm.trans h1)
    obtain rfl := Option.some.inj (e2.symm.trans h2)
    have k : DataW.Trod enc Tryz.prog W 0 (fun _ => true) true t' (.agg cs) d p := ⟨fuel, h4⟩
    have k2 : DataW.Trod enc Tryz.prog W' 0 (fun b => decide (b < W.heap.size)) true t' (.agg cs) d p := by
      rcases et with rfl | rfl
      · exact Below.trod laidOut (by kernel_rfl) (of_decide_eq_true (by kernel_rfl)) k hb (fun x hx => hlt x (List.mem_append_left _ (List.mem_append_right _ hx)))
      · exact Below.trod laidOut (by kernel_rfl) (of_decide_eq_true (by kernel_rfl)) k hb (fun x hx => hlt x (List.mem_append_left _ (List.mem_append_right _ hx)))
    obtain ⟨fuel', h4'⟩ := k2
    exact ⟨g', t', cs, fuel', p, q', h1, h2, var?_below hb h1 hz h3, h4', vars_backs hb ns gs q' (fun m hm => hn m (List.mem_cons_of_mem _ hm)) h5 (fun x hx => hlt x (List.mem_append_right _ hx)), rfl⟩
  | [], _ :: _, _, _, h, _ => by cases h
  | _ :: _, [], _, _, h, _ => by cases h

/-- the cells that a table's datum is, of numbers, of texts or of structs of numbers -/
def tabCellsA : DataW Unit → Array Value
  | .agg l => (l.flatMap fun | .lit (.int k z) => [Value.int k z] | .lit (.string z) => [Value.string ⟨z.toArray⟩] | .agg m => (m.map fun | .lit (.int k z) => Value.int k z | _ => .nilIface) | _ => []).toArray
  | _ => #[]

def layTabA (d : DataW Unit) : Obj → Obj
  | .cells _ t frozen => .cells (tabCellsA d) t frozen
  | o => o

/-- a world that holds the tables of numbers, the paths and the widths -/
noncomputable def laidWorldD (os : Os) : World :=
  { World.holding Tryz.prog os ⟨#[], #[], []⟩ with heap := (((((World.holding Tryz.prog os ⟨#[], #[], []⟩).heap.modify 3 (layTabA Rows.laid_internal_strconv_uint64pow10)).modify 8 (layTabA Rows.laid_math_bits_deBruijn32tab)).modify 9 (layTabA Rows.laid_math_bits_deBruijn64tab)).modify 1 (layTabA Rows.laid_loop_example_g00601_impl_tierPaths)).modify 0 (layTabA Rows.laid_loop_example_g00601_impl_tierWidths) }

end Go.Proofs.YtpackpocnonpiaaGreatDoor

/- The library's tables, its two errors' variables and its MaxLen: from the conditions of a row to what the contracts ask; a world that holds them. -/
namespace Go.Proofs.YtpackpocnonpiaaGreatDoor
open Go.ChangeShapes Go.WideShapes Go.ChangeAt Go.RowKit
set_option linter.unusedVariables false

theorem synG : Tryz.prog.globalNamed "strconv.ErrSyntax" = some 4 := by kernel_rfl
theorem synT : (Tryz.prog.globals[4]?).map (·.type) = some 207 := by kernel_rfl
theorem ranG : Tryz.prog.globalNamed "strconv.ErrRange" = some 5 := by kernel_rfl
theorem ranT : (Tryz.prog.globals[5]?).map (·.type) = some 207 := by kernel_rfl

theorem errs_of2 {W : World} {cs cs' : Array Value} {f f' : Nat} {p p' : List MemPlace} {nm nm' : String} {d d' : DataW Unit} (h1 : W.var? Tryz.prog "strconv.ErrRange" = some cs) (k1 : DataW.trod (fun _ => ()) Tryz.prog W 0 (fun _ => true) false f 207 cs.toList = some (.iface nm d, p))
    (h2 : W.var? Tryz.prog "strconv.ErrSyntax" = some cs') (k2 : DataW.trod (fun _ => ()) Tryz.prog W 0 (fun _ => true) false f' 207 cs'.toList = some (.iface nm' d', p')) : Errs W := by
  obtain ⟨_, u, v, e, _⟩ := iface_of_trod Tryz.underlying207 k1
  obtain ⟨_, u', v', e', _⟩ := iface_of_trod Tryz.underlying207 k2
  have c1 := World.var?_cell ranG h1 0
  have c2 := World.var?_cell synG h2 0
  rw [show cs[0]? = cs.toList[0]? by simp, e] at c1
  rw [show cs'[0]? = cs'.toList[0]? by simp, e'] at c2
  exact ⟨⟨_, c2, Or.inr ⟨u', v', rfl⟩⟩, ⟨_, c1, Or.inr ⟨u, v, rfl⟩⟩⟩

theorem errs_of7 {W : World} {n1 n2 n3 n4 : String} {d1 d2 d3 d4 : DataW Unit} {rest : List (String × DataW Unit)} (h : laidMet Tryz.prog ((n1, d1) :: (n2, d2) :: (n3, d3) :: (n4, d4) :: ("strconv.ErrRange", Rows.laid_strconv_ErrRange) :: ("strconv.ErrSyntax", Rows.laid_strconv_ErrSyntax) :: rest) W) : Errs W := by
  obtain ⟨ps, ⟨g1, t1, cs1, f1, p1, q1, _, _, _, _, ⟨g2, t2, cs2, f2, p2, q2, _, _, _, _, ⟨g3, t3, cs3, f3, p3, q3, _, _, _, _, ⟨g4, t4, cs4, f4, p4, q4, _, _, _, _, ⟨g5, t5, cs5, f5, p5, q5, hg5, ht5, hv5, hd5, ⟨g6, t6, cs6, f6, p6, q6, hg6, ht6, hv6, hd6, _, _⟩, _⟩, _⟩, _⟩, _⟩, _⟩, _⟩ := h
  obtain rfl := Option.some.inj (ranG.symm.trans hg5)
  obtain rfl := Option.some.inj (ranT.symm.trans ht5)
  obtain rfl := Option.some.inj (synG.symm.trans hg6)
  obtain rfl := Option.some.inj (synT.symm.trans ht6)
  exact errs_of2 hv5 hd5 hv6 hd6

theorem errs_of5 {W : World} {n1 n2 n3 : String} {d1 d2 d3 : DataW Unit} {rest : List (String × DataW Unit)} (h : laidMet Tryz.prog ((n1, d1) :: (n2, d2) :: (n3, d3) :: ("strconv.ErrRange", Rows.laid_strconv_ErrRange) :: ("strconv.ErrSyntax", Rows.laid_strconv_ErrSyntax) :: rest) W) : Errs W := by
  obtain ⟨ps, ⟨g1, t1, cs1, f1, p1, q1, _, _, _, _, ⟨g2, t2, cs2, f2, p2, q2, _, _, _, _, ⟨g3, t3, cs3, f3, p3, q3, _, _, _, _, ⟨g5, t5, cs5, f5, p5, q5, hg5, ht5, hv5, hd5, ⟨g6, t6, cs6, f6, p6, q6, hg6, ht6, hv6, hd6, _, _⟩, _⟩, _⟩, _⟩, _⟩, _⟩ := h
  obtain rfl := Option.some.inj (ranG.symm.trans hg5)
  obtain rfl := Option.some.inj (ranT.symm.trans ht5)
  obtain rfl := Option.some.inj (synG.symm.trans hg6)
  obtain rfl := Option.some.inj (synT.symm.trans ht6)
  exact errs_of2 hv5 hd5 hv6 hd6

/-- a variable of an int holds one -/
theorem int_of_shape {P : Program} {w : World} {g : Nat} {t : TypeId} {zero : Array Value} (h : w.ShapedOpen P) (hg : g < P.globals.size)
    (h0 : ((begin P (fun _ _ => 0) default).world.heap[g]?).bind Obj.row? = some (zero, t)) (hz : zero.size = 1)
    (hb : P.buildable t = true) (hc : P.cellTypes P.depth t = some [t]) (hu : P.underlying t = some (.int .i64)) : ∃ m, w.cell? ⟨g, 0, none⟩ = some (.int .i64 m) := by
  obtain ⟨cs, hh, hs, hr⟩ := h.1 g zero t hg h0
  obtain ⟨ts, hts, _, hall⟩ := hr hb
  rw [hc] at hts
  cases hts
  have h1 : 0 < cs.size := by omega
  obtain ⟨u, hu', hok⟩ := hall 0 cs[0] (by simp [h1])
  have : u = t := by simpa using hu'.symm
  subst this
  have hcell : w.cell? ⟨g, 0, none⟩ = some cs[0] := by simp [World.cell?, hh, h1]
  rw [hcell]
  unfold Cell.ok at hok
  rw [hu] at hok
  cases hv : cs[0] <;> rw [hv] at hok <;> simp at hok
  rename_i k n
  obtain ⟨rfl, _⟩ := hok
  exact ⟨n, rfl⟩

theorem maxL_of {W : World} (h : W.ShapedOpen Tryz.prog) : MaxL W :=
  int_of_shape (t := 3) (zero := #[.int .i64 0]) h (of_decide_eq_true (by kernel_rfl)) (by kernel_rfl) rfl (by kernel_rfl) (by kernel_rfl) Tryz.underlying3

/-- the cells that a table's datum is, of numbers or of structs of numbers -/
def tabCells2 : DataW Unit → Array Value
  | .agg l => (l.flatMap fun | .lit (.int k z) => [Value.int k z] | .agg m => (m.map fun | .lit (.int k z) => Value.int k z | _ => .nilIface) | _ => []).toArray
  | _ => #[]

def layTab2 (d : DataW Unit) : Obj → Obj
  | .cells _ t frozen => .cells (tabCells2 d) t frozen
  | o => o

def textOfD : DataW Unit → ByteArray
  | .iface _ (.ptr (.agg [.lit (.string z)])) => ⟨z.toArray⟩
  | _ => ⟨#[]⟩

noncomputable def low : Nat := (World.holding Tryz.prog default ⟨#[], #[], []⟩).heap.size

def layErr (b : Nat) : Obj → Obj
  | .cells _ t frozen => .cells #[.iface 304 (.pointer (some ⟨b, 0, none⟩))] t frozen
  | o => o

/-- a world that holds the tables and the errors -/
noncomputable def laidWorld7 (os : Os) : World :=
  let w0 := World.holding Tryz.prog os ⟨#[.cells #[.string (textOfD Rows.laid_strconv_ErrRange)] 306, .cells #[.string (textOfD Rows.laid_strconv_ErrSyntax)] 306], #[], []⟩
  { w0 with heap := (((((((w0.heap.modify 3 (layTab2 Rows.laid_internal_strconv_uint64pow10)).modify 8 (layTab2 Rows.laid_math_bits_deBruijn32tab)).modify 9 (layTab2 Rows.laid_math_bits_deBruijn64tab)).modify 7 (layTab2 Rows.laid_unicode_utf8_acceptRanges)).modify 6 (layTab2 Rows.laid_unicode_utf8_first)).modify 5 (layErr low)).modify 4 (layErr (low + 1))) }

end Go.Proofs.YtpackpocnonpiaaGreatDoor

/- What a row ties besides: the library's errors; a world that holds the tables, the paths, the widths and the errors. -/
namespace Go.Proofs.YtpackpocnonpiaaGreatDoor
open Go.ChangeShapes Go.WideShapes Go.ChangeAt Go.RowKit
set_option linter.unusedVariables false

theorem errs_in {W : World} {L : List (String × DataW Unit)} (h : laidMet Tryz.prog L W) (hm1 : ("strconv.ErrRange", Rows.laid_strconv_ErrRange) ∈ L) (hm2 : ("strconv.ErrSyntax", Rows.laid_strconv_ErrSyntax) ∈ L) : Errs W := by
  obtain ⟨g5, t5, cs5, f5, p5, hg5, ht5, hv5, hd5⟩ := laid_at h hm1
  obtain ⟨g6, t6, cs6, f6, p6, hg6, ht6, hv6, hd6⟩ := laid_at h hm2
  obtain rfl := Option.some.inj (ranG.symm.trans hg5)
  obtain rfl := Option.some.inj (ranT.symm.trans ht5)
  obtain rfl := Option.some.inj (synG.symm.trans hg6)
  obtain rfl := Option.some.inj (synT.symm.trans ht6)
  exact errs_of2 hv5 hd5 hv6 hd6

/-- a world that holds the tables, the paths, the widths and the errors -/
noncomputable def laidWorldZ (os : Os) : World :=
  let w0 := World.holding Tryz.prog os ⟨#[.cells #[.string (textOfD Rows.laid_strconv_ErrRange)] 306, .cells #[.string (textOfD Rows.laid_strconv_ErrSyntax)] 306], #[], []⟩
  { w0 with heap := (((((((((w0.heap.modify 3 (layTabA Rows.laid_internal_strconv_uint64pow10)).modify 8 (layTabA Rows.laid_math_bits_deBruijn32tab)).modify 9 (layTabA Rows.laid_math_bits_deBruijn64tab)).modify 7 (layTabA Rows.laid_unicode_utf8_acceptRanges)).modify 6 (layTabA Rows.laid_unicode_utf8_first)).modify 5 (layErr low)).modify 4 (layErr (low + 1))).modify 1 (layTabA Rows.laid_loop_example_g00601_impl_tierPaths)).modify 0 (layTabA Rows.laid_loop_example_g00601_impl_tierWidths)) }

end Go.Proofs.YtpackpocnonpiaaGreatDoor
