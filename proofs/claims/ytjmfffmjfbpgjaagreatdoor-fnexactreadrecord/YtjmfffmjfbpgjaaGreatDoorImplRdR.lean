/-
  Contracts of the program's readNumbers (five places) and ReadRecord: just the text of a right record is read. Conditions: the tables are as their texts lay them, the library's two errors' variables hold errors, its MaxLen an int; a text's length.
-/
import Derived.Test.YtjmfffmjfbpgjaaGreatDoorM3
import Derived.Test.YtjmfffmjfbpgjaaGreatDoorM2
namespace Go.Proofs.YtjmfffmjfbpgjaaGreatDoor
open Go.ChangeShapes Go.WideShapes Go.ChangeAt Go.RowKit Go.Deep Go.Joins
set_option linter.unusedVariables false
set_option linter.unusedSimpArgs false

/-- a record with its j-th number written anew -/
def GRec.setN (r : GRec) (j : Nat) (m : Int) : GRec := match j with
  | 0 => { r with kind := m }
  | 1 => { r with tok := m }
  | 2 => { r with tier := m }
  | 3 => { r with beg := m }
  | _ => { r with fin := m }

theorem setN_nums5 (r : GRec) (j : Nat) (m : Int) (h : j < 5) : (r.setN j m).nums.take (j + 1) = r.nums.take j ++ [m] := by
  match j, h with
  | 0, _ => rfl
  | 1, _ => rfl
  | 2, _ => rfl
  | 3, _ => rfl
  | 4, _ => rfl

/-- a record lies in a block, its key being K -/
def RecK (K : ByteArray) (w : World) (g : Nat) (r : GRec) : Prop := RecAt w g r ∧ r.key = K

theorem RecK.below {K : ByteArray} {w w' : World} {b B : Nat} {r : GRec} (h : RecK K w b r) (hb : Below B w w') (hB : b < B) : RecK K w' b r := ⟨RecAt.below h.1 hb hB, h.2⟩

theorem recK_setN {K : ByteArray} {w : World} {g : Nat} {r : GRec} (h : RecK K w g r) (j : Nat) (m : Int) (hj : j < 5) : RecK K (w.setCell ⟨g, j, none⟩ (.int .i64 m)) g (r.setN j m) := by
  obtain ⟨h, hk⟩ := h
  have h1 := Cells.setK h (k := j) (by simp [GRec.vals]; omega) (.int .i64 m)
  rw [Nat.zero_add] at h1
  match j, hj with
  | 0, _ => exact ⟨h1, hk⟩
  | 1, _ => exact ⟨h1, hk⟩
  | 2, _ => exact ⟨h1, hk⟩
  | 3, _ => exact ⟨h1, hk⟩
  | 4, _ => exact ⟨h1, hk⟩

theorem recK_at {K : ByteArray} {w : World} {g : Nat} {r : GRec} (h : RecK K w g r) (j : Nat) (hj : j < 5) : ∃ v, w.cell? ⟨g, j, none⟩ = some v := by
  obtain ⟨h0, h1, h2, h3, h4, h5⟩ := h.1.cells
  match j, hj with
  | 0, _ => exact ⟨_, h0⟩
  | 1, _ => exact ⟨_, h1⟩
  | 2, _ => exact ⟨_, h2⟩
  | 3, _ => exact ⟨_, h3⟩
  | 4, _ => exact ⟨_, h4⟩

/-- five places: pointers to the cells of block g, in block q -/
def Places5 (w : World) (q g : Nat) : Prop := ∀ i, i < 5 → w.cell? ⟨q, i, none⟩ = some (.pointer (some ⟨g, i, none⟩))

/-- what readNumbers does -/
def Filled5 (K : ByteArray) (t : ByteArray) (g : Nat) (w : World) (e : Ending) (w' : World) : Prop := ∃ b, e = .returned (.bool b) ∧ w.grownBy w' (some g) ∧ ∃ a, RecK K w' g a ∧ ((b = true ∧ NumsOf t 44 a.nums ∧ ∀ n ∈ a.nums, FitI n) ∨ (b = false ∧ ∀ ms, ms.length = 5 → (∀ m ∈ ms, Small m) → ¬ NumsOf t 44 ms))

set_option maxRecDepth 100000 in
theorem readNums5_any (K : ByteArray) (B g q : Nat) (t : ByteArray) (a0 : GRec) (w : World) (hS : RecK K w g a0) (hF : Free w (some ⟨g, 0, none⟩)) (hq : Places5 w q g) (hqg : q ≠ g) (hql : q < w.heap.size) (hgl : g < w.heap.size) (ht : t.size ≤ 65536) (hE : Errs w) (hP : Pow w) (hM : MaxL w) (hBg : B ≤ g) (hEB : ∀ w', Below B w w' → Errs w' ∧ Pow w') :
    Calls Tryz.prog 73 #[.string t, .slice (some ⟨q, 0, none⟩) 5 5] w (Filled5 K t g w) := by
  have HS := Lib.hid hS; clear hS
  have HF := Lib.hid hF; clear hF
  have HQ := Lib.hid hq; clear hq
  have HE := Lib.hid hE; clear hE
  have HP := Lib.hid hP; clear hP
  have HEB := Lib.hid hEB; clear hEB
  obtain ⟨m, hm⟩ := hM
  have hsp := sh_strings_SplitN t (sepB 44) 6 m w (by omega) hm (by decide) (by omega) (by omega)
  have HSP := Lib.hid hsp; clear hsp hm
  obtain ⟨L, hL⟩ : ∃ L, L = Lib.splitB (sepB 44) 0 (min 6 (t.size + 1) - 1) t := ⟨_, rfl⟩
  have HL1 := Lib.hid (show ∀ ms : List Int, ms.length = 5 → NumsOf t 44 ms → L = ms.map numT from fun ms h6 h => by
    rw [hL]
    exact split_nums (N := 5) comma_no h (by omega) (nums_len h))
  have hpc : Pieces t 44 L := by rw [hL]; exact split_pieces 44 _ t
  have HPC := Lib.hid hpc; clear hpc
  have hsp := HSP.out
  rw [← hL] at hsp
  have HSP2 := Lib.hid hsp; clear hsp HSP hL
  generalize min 6 (t.size + 1) = N at *
  go_enter Tryz.func73, Tryz.ntmps73
  go_wp2_with fail
  refine HSP2.out.mono ?_
  rintro e w1 ⟨rfl, rfl⟩
  clear HSP2
  have hb1 : Below w.heap.size w (w.alloc (.cells (Lib.cellsOf L N) 9)) := bal (Below.refl _ _) _
  have hc1 := fun (j : Nat) (h : j < L.length) => cells_part w L N 9 j h
  generalize w.alloc (.cells (Lib.cellsOf L N) 9) = w1 at *
  have HC1 := Lib.hid hc1; clear hc1
  have hz1 : w.heap.size < w1.heap.size ∨ L.length = 0 := by
    by_cases h0 : 0 < L.length
    · exact Or.inl (World.block_lt_of_cell? w1 _ (HC1.out 0 h0))
    · exact Or.inr (by omega)
  by_cases h6 : L.length = 5
  · rw [h6]
    have hp1 : w.heap.size < w1.heap.size := by omega
    have hpg : w.heap.size ≠ g := by omega
    have HPL := Lib.hid (piece_len HPC.out)
    have HC2 := Lib.hid (show ∀ j (h : j < 5), ∃ x, w1.cell? ⟨w.heap.size, j, none⟩ = some (.string x) ∧ L.take (j + 1) = L.take j ++ [x] ∧ x.size ≤ t.size ∧ x ∈ L from fun j h => ⟨L[j], HC1.out j (by omega), List.take_succ_eq_append_getElem (by omega), HPL.out _ (List.getElem_mem _), List.getElem_mem _⟩)
    have H6 := Lib.hid h6
    have HS1 := Lib.hid (HS.out.below hb1 hgl)
    have HF1 := Lib.hid (HF.out.below hb1 (fun b e => by simp [blk] at e; omega))
    have HQ1 := Lib.hid (show Places5 w1 q g from fun i hi => (hb1.cell (p := ⟨q, i, none⟩) hql).trans (HQ.out i hi))
    have hq1 : q < w1.heap.size := Nat.lt_trans hql hp1
    have hg1 : g < w1.heap.size := Nat.lt_trans hgl hp1
    have HGW := Lib.hid (grown_of_below hb1 (some g))
    generalize w.heap.size = pw at *
    clear HC1 HPL h6 hz1 HS HF HQ
    go_wp2_with fail
    go_loopw [22] (fun i wr => ∃ (j : Nat) (a : GRec), i = .int .i64 j ∧ j ≤ 5 ∧ Hid (RecK K wr g a) ∧ Hid (Free wr (some ⟨g, 0, none⟩)) ∧ Hid (L.take j = (a.nums.take j).map numT ∧ ∀ n ∈ a.nums.take j, FitI n) ∧ Hid (w1.grownBy wr (some g))) (fun i _ => 5 - (intOf i).toNat)
    case atStart => exact ⟨0, a0, rfl, by omega, HS1, HF1, Lib.hid ⟨rfl, by simp⟩, Lib.hid (grown_of_below (Below.refl _ _) _)⟩
    case round =>
      obtain ⟨j, a, rfl, hj, HS, HF, HT, HG⟩ := hrel
      have hBr : Below B w wr := (hb1.mono (by omega)).trans (below_of_grown HG.out (by omega) (fun g' e => by injection e with e; omega))
      have hgr : g < wr.heap.size := Nat.lt_of_lt_of_le hg1 HG.out.size
      by_cases hlt : j < 5
      · obtain ⟨X, hx1, hx2, hx3, hx4⟩ := HC2.out j hlt
        have q0 : wr.cell? ⟨pw, j, none⟩ = some (.string X) := (grown_far HG.out (p := ⟨pw, j, none⟩) hp1 hpg).trans hx1
        have q1 : wr.cell? ⟨q, j, none⟩ = some (.pointer (some ⟨g, j, none⟩)) := (grown_far HG.out (p := ⟨q, j, none⟩) hq1 hqg).trans (HQ1.out j hlt)
        have Q1 := Lib.hid q1; clear q1
        have HX2 := Lib.hid hx2
        have HX4 := Lib.hid hx4
        have hrd := readNumber_any X wr (by omega) (HEB.out wr hBr).1 (HEB.out wr hBr).2
        have Hrd := Lib.hid hrd; clear hrd hx1 hx2 hx4
        go_wp2_with fail
        refine Hrd.out.mono ?_
        rintro e w3 ⟨n, b, rfl, hn, _, hb3⟩
        clear Hrd
        have HG3 := Lib.hid (grown_trans HG.out (grown_of_below hb3 (some g)))
        have HS3 := Lib.hid (HS.out.below hb3 hgr)
        have HF3 := Lib.hid (HF.out.below hb3 (fun b e => by simp [blk] at e; omega))
        rcases hn with ⟨rfl, rfl, hf1, hf2⟩ | ⟨rfl, hno⟩
        · have HT2 := Lib.hid (show L.take (j + 1) = ((a.setN j n).nums.take (j + 1)).map numT ∧ ∀ x ∈ (a.setN j n).nums.take (j + 1), FitI x from by
            rw [setN_nums5 a j n hlt]
            refine ⟨by rw [HX2.out, HT.out.1]; simp, fun x hx => ?_⟩
            rcases List.mem_append.1 hx with hx | hx
            · exact HT.out.2 x hx
            · simp at hx; subst hx; exact ⟨hf1, hf2⟩)
          have HS4 := Lib.hid (recK_setN HS3.out j n hlt)
          have HF4 := Lib.hid (Free.setCell HF3.out ⟨g, j, none⟩ (.int .i64 n))
          have HG4 := Lib.hid (grown_setCell HG3.out ⟨g, j, none⟩ (Or.inl rfl) (.int .i64 n))
          obtain ⟨v0, c0⟩ := recK_at HS3.out j hlt
          have f0 : w3.frozen? ⟨g, j, none⟩ = false := HF3.out g rfl j
          have q1 : w3.cell? ⟨q, j, none⟩ = some (.pointer (some ⟨g, j, none⟩)) := (hb3.cell (Nat.lt_of_lt_of_le hq1 HG.out.size)).trans Q1.out
          clear HT HS HF HG HS3 HF3 HG3 HX2 HX4 Q1 hb3 hBr hx3
          go_wp2
          exact ⟨⟨j + 1, a.setN j n, by go_num, by omega, HS4, HF4, HT2, HG4⟩, by simp [intOf]; omega⟩
        · have HN := Lib.hid (show ∀ ms, ms.length = 5 → (∀ m ∈ ms, Small m) → ¬ NumsOf t 44 ms from fun ms hl hs h => by
            have hx := HX4.out
            rw [HL1.out ms hl h] at hx
            obtain ⟨m, hm, e⟩ := List.mem_map.1 hx
            exact hno m (hs m hm) e.symm)
          have HGw := Lib.hid (grown_trans HGW.out HG3.out)
          clear HT HS HF HG HF3 HG3 HX2 HX4 Q1 hb3 hBr hno
          go_wp2
          go_ret
          exact ⟨false, rfl, HGw.out, a, HS3.out, Or.inr ⟨rfl, HN.out⟩⟩
      · obtain rfl : j = 5 := by omega
        have HN := Lib.hid (show NumsOf t 44 a.nums ∧ ∀ n ∈ a.nums, FitI n from by
          obtain ⟨h1, h2⟩ := HT.out
          have e1 : L.take 5 = L := List.take_of_length_le (by rw [H6.out]; exact Nat.le_refl _)
          have e2 : a.nums.take 5 = a.nums := rfl
          rw [e1, e2] at h1
          rw [e2] at h2
          refine ⟨?_, h2⟩
          unfold NumsOf
          rw [← h1]
          exact HPC.out)
        have HGw := Lib.hid (grown_trans HGW.out HG.out)
        clear HT hBr
        go_wp2
        go_ret
        exact ⟨true, rfl, HGw.out, a, HS.out, Or.inl ⟨rfl, HN.out.1, HN.out.2⟩⟩
  · have hd : ((L.length : Int) != 5) = true := by simp; omega
    have HN := Lib.hid (show ∀ ms, ms.length = 5 → (∀ m ∈ ms, Small m) → ¬ NumsOf t 44 ms from fun ms hl _ h => by
      have := congrArg List.length (HL1.out ms hl h)
      rw [List.length_map] at this
      omega)
    clear HL1 HC1 h6 hz1
    go_wp2
    go_ret
    exact ⟨false, rfl, grown_of_below hb1 _, a0, HS.out.below hb1 hgl, Or.inr ⟨rfl, HN.out⟩⟩

theorem places_new5 (w : World) (g : Nat) (T : TypeId) : Places5 (w.alloc (.cells #[.pointer (some ⟨g, 0, none⟩), .pointer (some ⟨g, 1, none⟩), .pointer (some ⟨g, 2, none⟩), .pointer (some ⟨g, 3, none⟩), .pointer (some ⟨g, 4, none⟩)] T)) w.heap.size g := by
  intro i hi
  rw [World.cell?_alloc_new]
  match i, hi with
  | 0, _ => rfl
  | 1, _ => rfl
  | 2, _ => rfl
  | 3, _ => rfl
  | 4, _ => rfl

/-- a text at its first blank -/
theorem cut_parts (s : ByteArray) : ∃ (p q : ByteArray) (f : Bool), Lib.cut s.data.toList (⟨#[32]⟩ : ByteArray).data.toList = (p.data.toList, q.data.toList, f) ∧ p.size ≤ s.size ∧ q.size ≤ s.size ∧ ((f = true ∧ s.data.toList = p.data.toList ++ 32 :: q.data.toList ∧ (32 : UInt8) ∉ p.data.toList) ∨ (f = false ∧ (32 : UInt8) ∉ s.data.toList)) := by
  have hs : s.size = s.data.toList.length := by rw [Array.length_toList]; rfl
  show ∃ (p q : ByteArray) (f : Bool), Lib.cut s.data.toList [32] = _ ∧ _
  unfold Lib.cut
  rw [Lib.index_one]
  by_cases h : 0 ≤ Lib.indexByte s.data.toList 32
  · rw [if_pos h]
    obtain ⟨i, hi⟩ := Int.eq_ofNat_of_zero_le h
    obtain ⟨h1, h2⟩ := Lib.indexByte_some hi
    obtain ⟨hil, hic⟩ := List.getElem?_eq_some_iff.1 h1
    simp only [hi, Int.toNat_natCast]
    refine ⟨⟨(s.data.toList.take i).toArray⟩, ⟨(s.data.toList.drop (i + 1)).toArray⟩, true, by simp, ?_, ?_, Or.inl ⟨rfl, ?_, fun hm => ?_⟩⟩
    · show (s.data.toList.take i).toArray.size ≤ _
      simp <;> omega
    · show (s.data.toList.drop (i + 1)).toArray.size ≤ _
      simp <;> omega
    · show s.data.toList = (s.data.toList.take i).toArray.toList ++ 32 :: (s.data.toList.drop (i + 1)).toArray.toList
      rw [List.toList_toArray, List.toList_toArray, ← hic, ← List.drop_eq_getElem_cons hil, List.take_append_drop]
    · change (32 : UInt8) ∈ (s.data.toList.take i).toArray.toList at hm
      rw [List.toList_toArray] at hm
      obtain ⟨j, hj, e⟩ := List.mem_iff_getElem.1 hm
      rw [List.getElem_take] at e
      simp at hj
      exact h2 j (by omega) (by rw [List.getElem?_eq_getElem (by simp; omega), e])
  · rw [if_neg h]
    have h1 : Lib.indexByte s.data.toList 32 = -1 := by have := Lib.indexByte_ge s.data.toList 32; omega
    refine ⟨s, ⟨#[]⟩, false, rfl, Nat.le_refl _, Nat.zero_le _, Or.inr ⟨rfl, fun hm => ?_⟩⟩
    obtain ⟨j, hj, e⟩ := List.mem_iff_getElem.1 hm
    exact Lib.indexByte_none h1 j (by rw [List.getElem?_eq_getElem hj, e])

theorem noRec_noblank {t : ByteArray} (h : (32 : UInt8) ∉ t.data.toList) : NoRec t := fun r hr => h (by rw [hr.2, recT_list]; simp)

theorem noRec_parts {t p q : ByteArray} (h : t.data.toList = p.data.toList ++ 32 :: q.data.toList ∧ (32 : UInt8) ∉ p.data.toList) (hno : ∀ ms, ms.length = 5 → (∀ m ∈ ms, Small m) → ¬ NumsOf p 44 ms) : NoRec t := fun r hr =>
  hno r.nums rfl (recP_small hr.1) (recRead_parts hr.2 h.1 h.2).1

theorem noRec_wrong {t p q : ByteArray} {r : GRec} (h : t.data.toList = p.data.toList ++ 32 :: q.data.toList ∧ (32 : UInt8) ∉ p.data.toList) (hk : r.key = q) (hN : NumsOf p 44 r.nums) (hf : ∀ n ∈ r.nums, FitI n) (hp : ¬ RecP r) : NoRec t := fun s hs => by
  obtain ⟨h1, h2⟩ := recRead_parts hs.2 h.1 h.2
  have := nums_one comma_no hN h1 hf (fun n hn => small_fitI (recP_small hs.1 n hn))
  apply hp
  obtain ⟨a0, a1, a2, a3, a4, a5⟩ := r
  obtain ⟨b0, b1, b2, b3, b4, b5⟩ := s
  simp [GRec.nums] at this h2 hk
  obtain ⟨rfl, rfl, rfl, rfl, rfl⟩ := this
  subst h2 hk
  exact hs.1

set_option maxRecDepth 100000 in
set_option maxHeartbeats 16000000 in
theorem readRecord_any (t : ByteArray) (w : World) (ht : t.size ≤ 2 ^ 63 - 1) (hE : Errs w) (hP : Pow w) (hM : MaxL w) (hp : Paths w) (hz : 0 < w.heap.size) : Calls Tryz.prog 24 #[.string t] w fun e w' => ∃ r cd, e = .returned (.tuple #[.agg #[.int .i64 r.kind, .int .i64 r.tok, .int .i64 r.tier, .int .i64 r.beg, .int .i64 r.fin, .string r.key], .int .i64 cd]) ∧ RecCode t r cd ∧ Below w.heap.size w w' := by
  have hEP := fun w' (h : Below w.heap.size w w') => (show Errs w' ∧ Pow w' ∧ MaxL w' ∧ Paths w' ∧ 0 < w'.heap.size from ⟨hE.below h (Nat.le_refl _), hP.below h (Nat.le_refl _), hM.below h (Nat.le_refl _), hp.below h hz, Nat.lt_of_lt_of_le hz h.size⟩)
  have HEP := Lib.hid hEP; clear hEP hE hP hM hp hz
  go_enter Tryz.func24, Tryz.ntmps24
  go_wp2_with fail
  have hZ := ZeroR.new w 44
  have hbw : Below w.heap.size w (w.alloc (.cells #[.int .i64 0, .int .i64 0, .int .i64 0, .int .i64 0, .int .i64 0, .string ⟨#[]⟩] 44)) := bal (Below.refl _ _) _
  have hsz : (w.alloc (.cells #[.int .i64 0, .int .i64 0, .int .i64 0, .int .i64 0, .int .i64 0, .string ⟨#[]⟩] 44)).heap.size = w.heap.size + 1 := by simp
  generalize w.alloc (.cells #[.int .i64 0, .int .i64 0, .int .i64 0, .int .i64 0, .int .i64 0, .string ⟨#[]⟩] 44) = w0 at *
  have hb0 : Below w.heap.size w (w0.alloc (.cells #[.string t] 9)) := bal hbw _
  have hZ0 := hZ.below (bal (Below.refl _ w0) (.cells #[.string t] 9)) hZ.2.2
  have cW : (w0.alloc (.cells #[.string t] 9)).cell? ⟨w.heap.size + 1, 0, none⟩ = some (.string t) := by rw [← hsz]; simp
  generalize w0.alloc (.cells #[.string t] 9) = W at *
  generalize hx0 : w.heap.size = x0 at *
  have Hx0 := Lib.hid hx0
  have HZ := Lib.hid hZ0
  have hx1 : x0 < W.heap.size := HZ.out.2.2
  clear hx0 hZ0 hZ hbw hsz
  refine (tooLong_any (x0 + 1) t W cW ht).mono ?_
  rintro e w' ⟨rfl, rfl⟩
  clear cW
  cases hl : decide (65536 < (t.size : Int))
  rotate_left
  · have HR := Lib.hid (show RecCode t zRec 2 from Or.inl ⟨by simp at hl; omega, rfl, rfl⟩)
    obtain ⟨⟨z0, z1, z2, z3, z4, z5⟩, y0, y1, y2, y3, y4, y5⟩ := HZ.out.cells
    clear HZ HEP
    go_wp2
    refine bodyPost_ret (v := .tuple #[.agg #[.int .i64 0, .int .i64 0, .int .i64 0, .int .i64 0, .int .i64 0, .string ⟨#[]⟩], .int .i64 2]) (by simp [results, Tryz.results24, go_sem, *]) rfl ⟨zRec, 2, rfl, HR.out, ?_⟩
    rw [Hx0.out]
    exact setRec_below hb0 (Nat.le_refl _) _ _ _ _ _ _
  have hs : t.size ≤ 65536 := by simp at hl; omega
  clear hl
  obtain ⟨ml, hml⟩ := (HEP.out W hb0).2.2.1
  have hcut := sh_strings_Cut t ⟨#[32]⟩ ml W (by omega) hml
  obtain ⟨p, q, f, hpq, hpz, hqz, hparts⟩ := cut_parts t
  rw [hpq] at hcut
  have ep : (⟨p.data.toList.toArray⟩ : ByteArray) = p := by cases p; simp
  have eq : (⟨q.data.toList.toArray⟩ : ByteArray) = q := by cases q; simp
  simp only [ep, eq] at hcut
  have HCC := Lib.hid hcut
  clear hcut hml hpq ep eq
  go_wp2_with fail
  refine HCC.out.mono ?_
  rintro e w2 ⟨rfl, m2, rfl⟩
  clear HCC
  have hB2 : Below W.heap.size W (W.drewN m2) := bdrewN (Below.refl _ _) _
  have hb2 : Below x0 w (W.drewN m2) := hb0.trans (hB2.mono (Nat.le_of_lt hx1))
  have HZ2 := Lib.hid (HZ.out.below hB2 hx1)
  generalize W.drewN m2 = w2 at *
  have hx2 : x0 < w2.heap.size := HZ2.out.2.2
  clear HZ hB2 hb0 hx1
  rcases hparts with ⟨rfl, hparts⟩ | ⟨rfl, hno⟩
  rotate_left
  · have HR := Lib.hid (show RecCode t zRec 3 from Or.inr (Or.inr ⟨hs, noRec_noblank hno, rfl, rfl⟩))
    clear hno HEP
    obtain ⟨⟨z0, z1, z2, z3, z4, z5⟩, y0, y1, y2, y3, y4, y5⟩ := HZ2.out.cells
    clear HZ2
    go_wp2
    refine bodyPost_ret (v := .tuple #[.agg #[.int .i64 0, .int .i64 0, .int .i64 0, .int .i64 0, .int .i64 0, .string ⟨#[]⟩], .int .i64 3]) (by simp [results, Tryz.results24, go_sem, *]) rfl ⟨zRec, 3, rfl, HR.out, ?_⟩
    rw [Hx0.out]
    exact (setRec_below hb2 (Nat.le_refl _) _ _ _ _ _ _).alloc (by simp only [size_setCell]; omega) _
  have HPA := Lib.hid hparts; clear hparts
  go_wp2_with fail
  have hS1 : RecK q (w2.alloc (.cells #[.int .i64 0, .int .i64 0, .int .i64 0, .int .i64 0, .int .i64 0, .string q] 44)) w2.heap.size ⟨0, 0, 0, 0, 0, q⟩ := ⟨RecAt.new w2 ⟨0, 0, 0, 0, 0, q⟩ _, rfl⟩
  have hF1 := free_alloc w2 #[.int .i64 0, .int .i64 0, .int .i64 0, .int .i64 0, .int .i64 0, .string q] 44 0
  have hb1 : Below w2.heap.size w2 (w2.alloc (.cells #[.int .i64 0, .int .i64 0, .int .i64 0, .int .i64 0, .int .i64 0, .string q] 44)) := bal (Below.refl _ _) _
  have hz1 : (w2.alloc (.cells #[.int .i64 0, .int .i64 0, .int .i64 0, .int .i64 0, .int .i64 0, .string q] 44)).heap.size = w2.heap.size + 1 := by simp
  generalize w2.alloc (.cells #[.int .i64 0, .int .i64 0, .int .i64 0, .int .i64 0, .int .i64 0, .string q] 44) = W1 at *
  obtain ⟨g, hg⟩ : ∃ g, g = w2.heap.size := ⟨_, rfl⟩
  rw [← hg] at hb1 hz1 hS1 hF1 hx2 ⊢
  have hPl := places_new5 W1 g 126
  rw [hz1] at hPl
  have hb3 : Below W1.heap.size W1 (W1.alloc (.cells #[.pointer (some ⟨g, 0, none⟩), .pointer (some ⟨g, 1, none⟩), .pointer (some ⟨g, 2, none⟩), .pointer (some ⟨g, 3, none⟩), .pointer (some ⟨g, 4, none⟩)] 126)) := bal (Below.refl _ _) _
  have hz2 : g + 1 < (W1.alloc (.cells #[.pointer (some ⟨g, 0, none⟩), .pointer (some ⟨g, 1, none⟩), .pointer (some ⟨g, 2, none⟩), .pointer (some ⟨g, 3, none⟩), .pointer (some ⟨g, 4, none⟩)] 126)).heap.size := by simp; omega
  generalize W1.alloc (.cells #[.pointer (some ⟨g, 0, none⟩), .pointer (some ⟨g, 1, none⟩), .pointer (some ⟨g, 2, none⟩), .pointer (some ⟨g, 3, none⟩), .pointer (some ⟨g, 4, none⟩)] 126) = W2 at *
  have hgl : g < W1.heap.size := by omega
  have hS2 := hS1.below hb3 hgl
  have hF2 := hF1.below hb3 (fun b e => by simp [blk] at e; omega)
  have hB3 : Below g w2 W2 := hb1.trans (hb3.mono (by omega))
  have hZ2 := HZ2.out.below hB3 hx2
  have hBw : Below x0 w W2 := hb2.trans (hB3.mono (by omega))
  have hcall := readNums5_any q x0 g (g + 1) p ⟨0, 0, 0, 0, 0, q⟩ W2 hS2 hF2 hPl (by omega) hz2 (by omega) (by omega) (HEP.out W2 hBw).1 (HEP.out W2 hBw).2.1 (HEP.out W2 hBw).2.2.1 (by omega) (fun w' h => ⟨(HEP.out w' (hBw.trans h)).1, (HEP.out w' (hBw.trans h)).2.1⟩)
  have HC := Lib.hid hcall
  have HZ3 := Lib.hid hZ2
  have hxg : x0 ≠ g := by omega
  have hx3 : x0 < W2.heap.size := by omega
  have hg3 : g < W2.heap.size := by omega
  have HQZ := Lib.hid hqz
  clear hcall hZ2 hS2 hF2 hPl hS1 hF1 hb1 hb2 hb3 hz1 hz2 hB3 HZ2 hpz hqz hgl hg
  refine HC.out.mono ?_
  rintro e w3 ⟨b, rfl, hG, r, hS3, hR⟩
  have HZ4 := Lib.hid (HZ3.out.grown hG (fun e => hxg (by injection e)))
  have hB4 : Below x0 w w3 := hBw.trans (below_of_grown hG (by omega) (fun g' e => by injection e with e; omega))
  have hg4 : g < w3.heap.size := Nat.lt_of_lt_of_le hg3 hG.size
  clear HC HZ3 hG hBw hx3 hg3
  rcases hR with ⟨rfl, hN, hf⟩ | ⟨rfl, hno⟩
  rotate_left
  · have HR := Lib.hid (show RecCode t zRec 3 from Or.inr (Or.inr ⟨hs, noRec_parts HPA.out hno, rfl, rfl⟩))
    obtain ⟨⟨z0, z1, z2, z3, z4, z5⟩, y0, y1, y2, y3, y4, y5⟩ := HZ4.out.cells
    have hx4 : x0 < w3.heap.size := HZ4.out.2.2
    clear hno hS3 HZ4 HEP
    go_wp2
    refine bodyPost_ret (v := .tuple #[.agg #[.int .i64 0, .int .i64 0, .int .i64 0, .int .i64 0, .int .i64 0, .string ⟨#[]⟩], .int .i64 3]) (by simp [results, Tryz.results24, go_sem, *]) rfl ⟨zRec, 3, rfl, HR.out, ?_⟩
    rw [Hx0.out]
    exact setRec_below hB4 (Nat.le_refl _) _ _ _ _ _ _
  have HN := Lib.hid hN; have HF := Lib.hid hf; clear hN hf
  have HK := Lib.hid hS3.2
  have HS4 := Lib.hid hS3.1
  clear hS3
  obtain ⟨s0, s1, s2, s3, s4, s5⟩ := HS4.out.cells
  have hE4 := HEP.out w3 hB4
  have HE4 := Lib.hid hE4; clear hE4 HEP
  have hkz : r.key.size ≤ 2 ^ 63 - 1 := by have := HQZ.out; rw [HK.out]; omega
  have HKZ := Lib.hid hkz; clear hkz
  by_cases hpr : RecP r
  · have HR := Lib.hid (show RecCode t r 0 from Or.inr (Or.inl ⟨hs, ⟨hpr, recRead_of HPA.out.1 HN.out HK.out⟩, rfl⟩))
    have Hp := Lib.hid hpr; clear hpr HN HF HPA
    go_wp2_with fail
    refine (recordOK_b r true (by simp [Hp.out]) w3 HKZ.out HE4.out.2.2.2.1 HE4.out.2.2.2.2).mono ?_
    rintro e w4 ⟨rfl, hb4⟩
    have hZ5 := HZ4.out.below hb4 HZ4.out.2.2
    have hS5 := HS4.out.below hb4 hg4
    have hB5 : Below x0 w w4 := hB4.trans (hb4.mono (Nat.le_of_lt HZ4.out.2.2))
    have hx5 : x0 < w4.heap.size := hZ5.2.2
    obtain ⟨⟨z0, z1, z2, z3, z4, z5⟩, y0, y1, y2, y3, y4, y5⟩ := hZ5.cells
    clear s0 s1 s2 s3 s4 s5 hZ5 HZ4 HS4 hb4 hB4
    obtain ⟨s0, s1, s2, s3, s4, s5⟩ := hS5.cells
    clear hS5
    go_wp2
    refine bodyPost_ret (v := .tuple #[.agg #[.int .i64 r.kind, .int .i64 r.tok, .int .i64 r.tier, .int .i64 r.beg, .int .i64 r.fin, .string r.key], .int .i64 0]) (by simp [results, Tryz.results24, go_sem, *]) rfl ⟨r, 0, rfl, HR.out, ?_⟩
    rw [Hx0.out]
    exact setRec_below hB5 (Nat.le_refl _) _ _ _ _ _ _
  · have HR := Lib.hid (show RecCode t zRec 3 from Or.inr (Or.inr ⟨hs, noRec_wrong HPA.out HK.out HN.out HF.out hpr, rfl, rfl⟩))
    have Hp := Lib.hid hpr; clear hpr HN HF HPA
    go_wp2_with fail
    refine (recordOK_b r false (by simp [Hp.out]) w3 HKZ.out HE4.out.2.2.2.1 HE4.out.2.2.2.2).mono ?_
    rintro e w4 ⟨rfl, hb4⟩
    have hZ5 := HZ4.out.below hb4 HZ4.out.2.2
    have hB5 : Below x0 w w4 := hB4.trans (hb4.mono (Nat.le_of_lt HZ4.out.2.2))
    have hx5 : x0 < w4.heap.size := hZ5.2.2
    obtain ⟨⟨z0, z1, z2, z3, z4, z5⟩, y0, y1, y2, y3, y4, y5⟩ := hZ5.cells
    clear s0 s1 s2 s3 s4 s5 hZ5 HZ4 HS4 hb4 hB4
    go_wp2
    refine bodyPost_ret (v := .tuple #[.agg #[.int .i64 0, .int .i64 0, .int .i64 0, .int .i64 0, .int .i64 0, .string ⟨#[]⟩], .int .i64 3]) (by simp [results, Tryz.results24, go_sem, *]) rfl ⟨zRec, 3, rfl, HR.out, ?_⟩
    rw [Hx0.out]
    exact setRec_below hB5 (Nat.le_refl _) _ _ _ _ _ _

end Go.Proofs.YtjmfffmjfbpgjaaGreatDoor
