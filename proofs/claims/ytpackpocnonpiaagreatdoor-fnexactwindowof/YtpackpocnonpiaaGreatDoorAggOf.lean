/-
  Contracts of AggOf of both packages: the aggregate of samples, and the code. Conditions: none beside a length's own bound.
-/
import Derived.Test.YtpackpocnonpiaaGreatDoorSamImpl
import Derived.Test.YtpackpocnonpiaaGreatDoorMergeAgg
import Derived.Test.YtpackpocnonpiaaGreatDoorAggSt
namespace Go.Proofs.YtpackpocnonpiaaGreatDoor
open Go.ChangeShapes Go.WideShapes Go.ChangeAt Go.RowKit
set_option linter.unusedVariables false

/-- the aggregate of one value -/
def one (s : GSam) : GAgg := ⟨1, s.v, s.v, s.v, s.v, s.v⟩

/-- the aggregate of samples -/
def gOf (xs : List GSam) : GAgg := (xs.map one).foldl gMerge zAgg

/-- it, and the code -/
def AggOfR (xs : List GSam) (r : GAgg) (c : Int) : Prop := (4096 < xs.length ∧ r = zAgg ∧ c = 2) ∨ (xs.length ≤ 4096 ∧ ¬ SamP xs ∧ r = zAgg ∧ c = 1) ∨ (SamP xs ∧ r = gOf xs ∧ c = 0)

theorem AggOfR.one {xs : List GSam} {r r' : GAgg} {c c' : Int} (h : AggOfR xs r c) (h' : AggOfR xs r' c') : r = r' ∧ c = c' := by
  by_cases hl : 4096 < xs.length
  · have e : r = zAgg ∧ c = 2 := by
      rcases h with h | h | h
      · exact h.2
      · exact absurd hl (by omega)
      · have := h.1.1; omega
    have e' : r' = zAgg ∧ c' = 2 := by
      rcases h' with h | h | h
      · exact h.2
      · exact absurd hl (by omega)
      · have := h.1.1; omega
    exact ⟨e.1.trans e'.1.symm, e.2.trans e'.2.symm⟩
  · by_cases hp : SamP xs
    · have e : r = gOf xs ∧ c = 0 := by
        rcases h with h | h | h
        · exact absurd h.1 hl
        · exact absurd hp h.2.1
        · exact h.2
      have e' : r' = gOf xs ∧ c' = 0 := by
        rcases h' with h | h | h
        · exact absurd h.1 hl
        · exact absurd hp h.2.1
        · exact h.2
      exact ⟨e.1.trans e'.1.symm, e.2.trans e'.2.symm⟩
    · have e : r = zAgg ∧ c = 1 := by
        rcases h with h | h | h
        · exact absurd h.1 hl
        · exact h.2.2
        · exact absurd h.1 hp
      have e' : r' = zAgg ∧ c' = 1 := by
        rcases h' with h | h | h
        · exact absurd h.1 hl
        · exact h.2.2
        · exact absurd h.1 hp
      exact ⟨e.1.trans e'.1.symm, e.2.trans e'.2.symm⟩

theorem AggP.of_one {s : GSam} (h : samB s = true) : AggP (one s) := by
  rw [samB_iff] at h
  exact Or.inr ⟨by simp [one], by simp [one], by simp only [one]; omega, by simp only [one]; omega, by simp only [one]; omega, by simp only [one]; omega, by simp [one], by simp [one], by simp [one], by simp [one], by simp [one], by simp [one]⟩

theorem mergeAll_ones : ∀ (l : List GAgg) (acc : GAgg), (∀ x ∈ l, x.cnt = 1) → acc.cnt + l.length ≤ 100000 → mergeAll acc l = (l.foldl gMerge acc, 0)
  | [], acc, _, _ => rfl
  | x :: l, acc, h1, h2 => by
    have hx := h1 x (by simp)
    simp only [List.length_cons] at h2
    have hc : (gMerge acc x).cnt = acc.cnt + 1 := by rw [gMerge_cnt, hx]
    unfold mergeAll
    rw [if_neg (by omega), List.foldl_cons]
    exact mergeAll_ones l _ (fun y hy => h1 y (by simp [hy])) (by omega)

theorem mergeAll_of {xs : List GSam} (h : xs.length ≤ 4096) : mergeAll zAgg (xs.map one) = (gOf xs, 0) :=
  mergeAll_ones _ _ (fun x hx => by obtain ⟨s, _, rfl⟩ := List.mem_map.1 hx; rfl) (by simp [zAgg]; omega)

theorem infoAgg : (Tryz.prog.info? 26).map (fun i => (i.zero, i.size, i.bytes)) = some (some (.agg #[.int .i64 0, .int .i64 0, .int .i64 0, .int .i64 0, .int .i64 0, .int .i64 0]), 6, 48) := by kernel_rfl

def zeroAggs (n : Nat) : Obj := .cells (madeCells #[.int .i64 0, .int .i64 0, .int .i64 0, .int .i64 0, .int .i64 0, .int .i64 0] (n * 6)) 26

theorem make_aggs (n : Nat) (hn : n ≤ 1048576) (W : World) : (Instr.makeSlice 213 (.int .i64 (n : Int)) (.int .i64 (n : Int))).run Tryz.prog W = .ok (.slice (some ⟨W.heap.size, 0, none⟩) n n) (W.alloc (zeroAggs n)) :=
  run_make_n (P := Tryz.prog) 213 26 _ 6 48 infoAgg Tryz.underlying213 n n (Nat.le_refl _) (by omega) (by omega) W

theorem zeroAggs_sl (n : Nat) (w : World) : AggsAt (w.alloc (zeroAggs n)) (w.heap.size + 1) (some ⟨w.heap.size, 0, none⟩) (List.replicate n zAgg) :=
  made_sl GAgg.vals zAgg 6 n 26 w _ rfl rfl

set_option maxRecDepth 100000 in
set_option maxHeartbeats 1000000 in
theorem aggOf_any (A : Option Addr) (c : Nat) (xs : List GSam) (B : Nat) (w : World) (h : SamsAt w B A xs) (hB : B ≤ w.heap.size) (hl : xs.length ≤ 1048576) :
    Calls Tryz.prog 89 #[.slice A xs.length c] w fun e w' => ∃ r cd, e = .returned (.tuple #[.agg #[.int .i64 r.cnt, .int .i64 r.sum, .int .i64 r.mn, .int .i64 r.mx, .int .i64 r.fst, .int .i64 r.lst], .int .i64 cd]) ∧ AggOfR xs r cd ∧ Below w.heap.size w w' := by
  have H := Lib.hid h; clear h
  by_cases hlen : 4096 < xs.length
  · have d0 : decide (4096 < (xs.length : Int)) = true := by simp; omega
    have HR := Lib.hid (show AggOfR xs zAgg 2 from Or.inl ⟨hlen, rfl, rfl⟩)
    clear H
    go_enter Tryz.func89, Tryz.ntmps89
    go_wp2
    refine bodyPost_ret (v := .tuple #[.agg #[.int .i64 0, .int .i64 0, .int .i64 0, .int .i64 0, .int .i64 0, .int .i64 0], .int .i64 2]) (by simp [results, Tryz.results89, go_sem]) rfl ⟨zAgg, 2, rfl, HR.out, bal (Below.refl _ _) _⟩
  have d0 : decide (4096 < (xs.length : Int)) = false := by simp; omega
  go_enter Tryz.func89, Tryz.ntmps89
  go_wp2_with fail
  obtain ⟨W, hW⟩ : ∃ W, W = w.alloc (.cells #[.int .i64 0, .int .i64 0, .int .i64 0, .int .i64 0, .int .i64 0, .int .i64 0] 26) := ⟨_, rfl⟩
  have t0 : Six W w.heap.size zAgg ∧ Free W (some ⟨w.heap.size, 0, none⟩) := by rw [hW]; exact ⟨Six.new w zAgg _, free_alloc w _ _ 0⟩
  have b0 : Below w.heap.size w W := by rw [hW]; exact bal (Below.refl _ _) _
  have s0 : w.heap.size < W.heap.size := by rw [hW]; simp
  rw [← hW]
  clear hW
  have T0 := Lib.hid t0; clear t0
  generalize hx0 : w.heap.size = x0 at *
  have Hx0 := Lib.hid hx0; clear hx0
  refine (samplesOK_any A c xs B W (Sl.below H.out b0 hB) (by omega) hl).mono ?_
  rintro e w1 ⟨b, hb, rfl, hb1⟩
  have b1 : Below x0 w w1 := b0.trans (hb1.mono (by omega))
  have s1 : x0 < w1.heap.size := by have := hb1.size; omega
  have T1 := Lib.hid (And.intro (T0.out.1.below hb1 s0) (T0.out.2.below hb1 (fun b e => by simp [blk] at e; omega)))
  clear T0 hb1 b0 s0
  cases b
  · have HR := Lib.hid (show AggOfR xs zAgg 1 from Or.inr (Or.inl ⟨by omega, (fun h => Bool.noConfusion (hb.2 h)), rfl, rfl⟩))
    clear hb
    obtain ⟨z0, z1, z2, z3, z4, z5⟩ : (w1.cell? ⟨x0, 0, none⟩ = some (.int .i64 0) ∧ w1.cell? ⟨x0, 1, none⟩ = some (.int .i64 0) ∧ w1.cell? ⟨x0, 2, none⟩ = some (.int .i64 0) ∧ w1.cell? ⟨x0, 3, none⟩ = some (.int .i64 0) ∧ w1.cell? ⟨x0, 4, none⟩ = some (.int .i64 0) ∧ w1.cell? ⟨x0, 5, none⟩ = some (.int .i64 0)) := T1.out.1
    have fz := T1.out.2
    have y0 := fz _ rfl 0
    have y1 := fz _ rfl 1
    have y2 := fz _ rfl 2
    have y3 := fz _ rfl 3
    have y4 := fz _ rfl 4
    have y5 := fz _ rfl 5
    clear fz
    go_wp2
    refine bodyPost_ret (v := .tuple #[.agg #[.int .i64 0, .int .i64 0, .int .i64 0, .int .i64 0, .int .i64 0, .int .i64 0], .int .i64 1]) (by simp [results, Tryz.results89, go_sem, *]) rfl ⟨zAgg, 1, rfl, HR.out, ?_⟩
    rw [Hx0.out]
    exact setAgg_below b1 (Nat.le_refl _) zAgg
  have hp : SamP xs := hb.1 rfl
  have HP := Lib.hid hp; clear hp hb
  have hmk := make_aggs xs.length hl
  go_wp2_with fail
  have hsl := zeroAggs_sl xs.length w1
  have hfr : Free (w1.alloc (zeroAggs xs.length)) (some ⟨w1.heap.size, 0, none⟩) := free_alloc _ _ _ _
  have hbw : Below w1.heap.size w1 (w1.alloc (zeroAggs xs.length)) := bal (Below.refl _ _) _
  have hsz : w1.heap.size < (w1.alloc (zeroAggs xs.length)).heap.size := by simp
  generalize w1.alloc (zeroAggs xs.length) = w0 at hsl hfr hbw hsz ⊢
  clear hmk
  generalize hy : w1.heap.size = y at *
  have Hsl := Lib.hid hsl; clear hsl
  have Hfr := Lib.hid hfr; clear hfr
  have Hy := Lib.hid hy; clear hy
  go_loopw [20] (fun i wr => ∃ j : Nat, j ≤ xs.length ∧ i = .int .i64 j ∧ Hid (AggsAt wr (y + 1) (some ⟨y, 0, none⟩) ((xs.map one).take j ++ (List.replicate xs.length zAgg).drop j)) ∧ Hid (Free wr (some ⟨y, 0, none⟩)) ∧ y < wr.heap.size ∧ Below y w1 wr) (fun i _ => xs.length - (intOf i).toNat)
  case atStart => exact ⟨0, by omega, rfl, Lib.hid (by simpa using Hsl.out), Hfr, hsz, hbw⟩
  case round =>
    clear Hsl Hfr hbw hsz
    obtain ⟨j, hj, rfl, Hr, Hf, hs, hbr⟩ := hrel
    by_cases hlt : j < xs.length
    · have hcc : Below x0 w wr := b1.trans (hbr.mono (by omega))
      obtain ⟨bb, off, rfl, hbB, p0, p1⟩ := SamsAt.sam (Sl.below H.out hcc hB) hlt
      have hjl : j < ((xs.map one).take j ++ (List.replicate xs.length zAgg).drop j).length := by simp; omega
      obtain ⟨g, o, e, hgB, q0, q1, q2, q3, q4, q5⟩ := AggsAt.agg Hr.out hjl
      injection e with e
      injection e with e1 e2
      subst e1 e2
      generalize hG : ((xs.map one).take j ++ (List.replicate xs.length zAgg).drop j)[j] = G at q0 q1 q2 q3 q4 q5
      clear hG
      rw [Nat.zero_add] at q0 q1 q2 q3 q4 q5
      have fz := Hf.out
      have y0 : wr.frozen? ⟨y, j * 6, none⟩ = false := fz _ rfl _
      have y1 : wr.frozen? ⟨y, j * 6 + 1, none⟩ = false := fz _ rfl _
      have y2 : wr.frozen? ⟨y, j * 6 + 2, none⟩ = false := fz _ rfl _
      have y3 : wr.frozen? ⟨y, j * 6 + 3, none⟩ = false := fz _ rfl _
      have y4 : wr.frozen? ⟨y, j * 6 + 4, none⟩ = false := fz _ rfl _
      have y5 : wr.frozen? ⟨y, j * 6 + 5, none⟩ = false := fz _ rfl _
      clear fz
      have hnb : bb ≠ y := by omega
      obtain ⟨Wn, hWn⟩ : ∃ Wn, Wn = ((((((wr.setCell ⟨y, j * 6, none⟩ (.int .i64 1)).setCell ⟨y, j * 6 + 1, none⟩ (.int .i64 xs[j].v)).setCell ⟨y, j * 6 + 2, none⟩ (.int .i64 xs[j].v)).setCell ⟨y, j * 6 + 3, none⟩ (.int .i64 xs[j].v)).setCell ⟨y, j * 6 + 4, none⟩ (.int .i64 xs[j].v)).setCell ⟨y, j * 6 + 5, none⟩ (.int .i64 xs[j].v)) := ⟨_, rfl⟩
      have hn : AggsAt Wn (y + 1) (some ⟨y, 0, none⟩) ((xs.map one).take (j + 1) ++ (List.replicate xs.length zAgg).drop (j + 1)) := by
        have h1 := AggsAt.store (w1 := wr) Hr.out hjl (fun i => rfl) (one xs[j])
        have e1 : (xs.map one)[j]'(by simpa using hlt) = one xs[j] := by simp
        rw [← e1, take_set (xs.map one) _ j (by simpa using hlt) (by simpa using hlt), e1] at h1
        rw [hWn]
        exact h1
      have hfn : Free Wn (some ⟨y, 0, none⟩) := by rw [hWn]; exact (((((Hf.out.setCell _ _).setCell _ _).setCell _ _).setCell _ _).setCell _ _).setCell _ _
      have hsn : Wn.heap.size = wr.heap.size := by rw [hWn]; simp
      have hbn : Below y w1 Wn := by rw [hWn]; exact (((((hbr.setCell (Nat.le_refl _) _).setCell (Nat.le_refl _) _).setCell (Nat.le_refl _) _).setCell (Nat.le_refl _) _).setCell (Nat.le_refl _) _).setCell (Nat.le_refl _) _
      have Hn := Lib.hid hn; clear hn
      have Hfn := Lib.hid hfn; clear hfn
      have Hbn := Lib.hid hbn; clear hbn
      have Hsn := Lib.hid hsn; clear hsn
      have HWn := Lib.hid hWn; clear hWn
      go_wp2
      rw [← HWn.out]
      go_roundw
      case rel =>
        have hsz := Hsn.out
        have hb9 : Below (y + 1) Wn (Wn.alloc (.cells #[.int .i64 xs[j].t, .int .i64 xs[j].v] 142)) := (Below.refl _ _).alloc (by omega) _
        exact ⟨j + 1, by omega, by go_num, Lib.hid (Sl.below Hn.out hb9 (Nat.le_refl _)), Lib.hid (Hfn.out.below hb9 (fun b e => by simp [blk] at e; omega)), by simp; omega, Hbn.out.alloc (by omega) _⟩
      case measure => simp [intOf]; omega
    · obtain rfl : j = xs.length := by omega
      have hn : AggsAt wr (y + 1) (some ⟨y, 0, none⟩) (xs.map one) := by
        have := Hr.out
        rw [List.take_of_length_le (by simp), List.drop_of_length_le (by simp), List.append_nil] at this
        exact this
      have Hn := Lib.hid hn; clear hn Hr
      have hap : ∀ x ∈ xs.map one, AggP x := fun x hx => by
        obtain ⟨s, hs, rfl⟩ := List.mem_map.1 hx
        obtain ⟨i, hi, rfl⟩ := List.mem_iff_getElem.1 hs
        exact AggP.of_one (HP.out.2 i hi hi).1
      have Hap := Lib.hid hap; clear hap
      have hml : (xs.map one).length = xs.length := List.length_map _
      have HR := Lib.hid (show AggOfR xs (gOf xs) 0 from Or.inr (Or.inr ⟨HP.out, rfl, rfl⟩))
      have Hm := Lib.hid (mergeAll_of (xs := xs) (by omega))
      have hm := merge_any (some ⟨y, 0, none⟩) xs.length (xs.map one) (y + 1) wr Hn.out (by omega) Hap.out (by rw [hml]; omega)
      rw [Hm.out, hml] at hm
      have HMm := Lib.hid hm; clear hm hml Hm
      go_wp2_with fail
      refine HMm.out.mono ?_
      rintro e w5 ⟨rfl, hb5⟩
      have hcc : Below (x0 + 1) w1 w5 := (hbr.mono (by omega)).trans (hb5.mono (by omega))
      have b5 : Below x0 w w5 := b1.trans (hcc.mono (by omega))
      have T5 := Lib.hid (And.intro (T1.out.1.below hcc (by omega)) (T1.out.2.below hcc (fun b e => by simp [blk] at e; omega)))
      obtain ⟨z0, z1, z2, z3, z4, z5⟩ : (w5.cell? ⟨x0, 0, none⟩ = some (.int .i64 0) ∧ w5.cell? ⟨x0, 1, none⟩ = some (.int .i64 0) ∧ w5.cell? ⟨x0, 2, none⟩ = some (.int .i64 0) ∧ w5.cell? ⟨x0, 3, none⟩ = some (.int .i64 0) ∧ w5.cell? ⟨x0, 4, none⟩ = some (.int .i64 0) ∧ w5.cell? ⟨x0, 5, none⟩ = some (.int .i64 0)) := T5.out.1
      have fz := T5.out.2
      have y0 := fz _ rfl 0
      have y1 := fz _ rfl 1
      have y2 := fz _ rfl 2
      have y3 := fz _ rfl 3
      have y4 := fz _ rfl 4
      have y5 := fz _ rfl 5
      clear fz HMm hb5 hcc
      generalize gOf xs = R at *
      unfold GAgg.val
      go_wp2
      refine bodyPost_ret (v := .tuple #[.agg #[.int .i64 R.cnt, .int .i64 R.sum, .int .i64 R.mn, .int .i64 R.mx, .int .i64 R.fst, .int .i64 R.lst], .int .i64 0]) (by simp [results, Tryz.results89, go_sem, *]) rfl ⟨R, 0, rfl, HR.out, ?_⟩
      rw [Hx0.out]
      exact setAgg_below b5 (Nat.le_refl _) R

end Go.Proofs.YtpackpocnonpiaaGreatDoor
