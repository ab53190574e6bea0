/-
  Several texts as one: contracts that the law leans on; each part says what it proves and its conditions.
-/
import Derived.Test.YtjmfffmjfbpgjaaGreatDoorM2
import Derived.Test.YtjmfffmjfbpgjaaGreatDoorSamImpl
import Derived.Test.YtjmfffmjfbpgjaaGreatDoorSrcSam
import Derived.Test.YtjmfffmjfbpgjaaGreatDoorSpecRd
import Derived.Test.YtjmfffmjfbpgjaaGreatDoorBktOK
import Derived.Test.YtjmfffmjfbpgjaaGreatDoorAppG

/- An aggregate stored into a slice of aggregates. No Go text is walked here. -/
namespace Go.Proofs.YtjmfffmjfbpgjaaGreatDoor
open Go.RowKit
set_option linter.unusedVariables false

set_option maxHeartbeats 2000000 in
theorem AggsAt.store {w w1 : World} {B g k : Nat} {ys : List GAgg} (h : AggsAt w B (some ⟨g, 0, none⟩) ys) (hk : k < ys.length) (ho : ∀ i, w1.cell? ⟨g, i, none⟩ = w.cell? ⟨g, i, none⟩) (o : GAgg) :
    AggsAt ((((((w1.setCell ⟨g, k * 6, none⟩ (.int .i64 o.cnt)).setCell ⟨g, k * 6 + 1, none⟩ (.int .i64 o.sum)).setCell ⟨g, k * 6 + 2, none⟩ (.int .i64 o.mn)).setCell ⟨g, k * 6 + 3, none⟩ (.int .i64 o.mx)).setCell ⟨g, k * 6 + 4, none⟩ (.int .i64 o.fst)).setCell ⟨g, k * 6 + 5, none⟩ (.int .i64 o.lst)) B (some ⟨g, 0, none⟩) (ys.set k o) := by
  obtain ⟨b, off, e, hgB, q0, q1, q2, q3, q4, q5⟩ := AggsAt.agg h hk
  injection e with e
  injection e with e1 e2
  subst e1 e2
  rw [← ho] at q0 q1 q2 q3 q4 q5
  rw [Nat.zero_add] at q0 q1 q2 q3 q4 q5
  refine Sl.set h (fun x => rfl) hk o ?_ ?_
  · intro j v hv
    rw [Nat.zero_add]
    match j, hv with
    | 0, hv =>
      simp [GAgg.vals] at hv; subst hv
      exact ((cset_ne _ _ _ _ _ (by omega)).trans ((cset_ne _ _ _ _ _ (by omega)).trans ((cset_ne _ _ _ _ _ (by omega)).trans ((cset_ne _ _ _ _ _ (by omega)).trans ((cset_ne _ _ _ _ _ (by omega)).trans (cset_eq _ _ _ _ q0))))))
    | 1, hv =>
      simp [GAgg.vals] at hv; subst hv
      exact ((cset_ne _ _ _ _ _ (by omega)).trans ((cset_ne _ _ _ _ _ (by omega)).trans ((cset_ne _ _ _ _ _ (by omega)).trans ((cset_ne _ _ _ _ _ (by omega)).trans (cset_eq _ _ _ _ ((cset_ne _ _ _ _ _ (by omega)).trans q1))))))
    | 2, hv =>
      simp [GAgg.vals] at hv; subst hv
      exact ((cset_ne _ _ _ _ _ (by omega)).trans ((cset_ne _ _ _ _ _ (by omega)).trans ((cset_ne _ _ _ _ _ (by omega)).trans (cset_eq _ _ _ _ ((cset_ne _ _ _ _ _ (by omega)).trans ((cset_ne _ _ _ _ _ (by omega)).trans q2))))))
    | 3, hv =>
      simp [GAgg.vals] at hv; subst hv
      exact ((cset_ne _ _ _ _ _ (by omega)).trans ((cset_ne _ _ _ _ _ (by omega)).trans (cset_eq _ _ _ _ ((cset_ne _ _ _ _ _ (by omega)).trans ((cset_ne _ _ _ _ _ (by omega)).trans ((cset_ne _ _ _ _ _ (by omega)).trans q3))))))
    | 4, hv =>
      simp [GAgg.vals] at hv; subst hv
      exact ((cset_ne _ _ _ _ _ (by omega)).trans (cset_eq _ _ _ _ ((cset_ne _ _ _ _ _ (by omega)).trans ((cset_ne _ _ _ _ _ (by omega)).trans ((cset_ne _ _ _ _ _ (by omega)).trans ((cset_ne _ _ _ _ _ (by omega)).trans q4))))))
    | 5, hv =>
      simp [GAgg.vals] at hv; subst hv
      exact (cset_eq _ _ _ _ ((cset_ne _ _ _ _ _ (by omega)).trans ((cset_ne _ _ _ _ _ (by omega)).trans ((cset_ne _ _ _ _ _ (by omega)).trans ((cset_ne _ _ _ _ _ (by omega)).trans ((cset_ne _ _ _ _ _ (by omega)).trans q5))))))
    | j + 6, hv => simp [GAgg.vals] at hv
  · intro i hi
    exact (cset_ne _ _ _ _ _ (by omega)).trans ((cset_ne _ _ _ _ _ (by omega)).trans ((cset_ne _ _ _ _ _ (by omega)).trans ((cset_ne _ _ _ _ _ (by omega)).trans ((cset_ne _ _ _ _ _ (by omega)).trans ((cset_ne _ _ _ _ _ (by omega)).trans (ho i))))))

end Go.Proofs.YtjmfffmjfbpgjaaGreatDoor

/- Contracts of AggOf of both packages: the aggregate of samples, and the code. Conditions: none beside a length's own bound. -/
namespace Go.Proofs.YtjmfffmjfbpgjaaGreatDoor
open Go.ChangeShapes Go.WideShapes Go.ChangeAt Go.RowKit
set_option linter.unusedVariables false

/-- the aggregate of one value -/
def one (s : GSam) : GAgg := ⟨1, s.v, s.v, s.v, s.v, s.v⟩

/-- the aggregate of samples -/
def gOf (xs : List GSam) : GAgg := (xs.map one).foldl gMerge zAgg

/-- it, and the code -/
def AggOfR (xs : List GSam) (r : GAgg) (c : Int) : Prop := (4096 < xs.length ∧ r = zAgg ∧ c = 2) ∨ (xs.length ≤ 4096 ∧ ¬ SamP xs ∧ r = zAgg ∧ c = 1) ∨ (SamP xs ∧ r = gOf xs ∧ c = 0)

theorem AggOfR.one {xs : List GSam} {r r' : GAgg} {c c' : Int} (h : AggOfR xs r c) (h' : AggOfR xs r' c') : r = r' ∧ c = c' := by
  by_cases hl : 4096 < xs.length
  · have e : r = zAgg ∧ c = 2 := by
      rcases h with h | h | h
      · exact h.2
      · exact absurd hl (by omega)
      · have := h.1.1; omega
    have e' : r' = zAgg ∧ c' = 2 := by
      rcases h' with h | h | h
      · exact h.2
      · exact absurd hl (by omega)
      · have := h.1.1; omega
    exact ⟨e.1.trans e'.1.symm, e.2.trans e'.2.symm⟩
  · by_cases hp : SamP xs
    · have e : r = gOf xs ∧ c = 0 := by
        rcases h with h | h | h
        · exact absurd h.1 hl
        · exact absurd hp h.2.1
        · exact h.2
      have e' : r' = gOf xs ∧ c' = 0 := by
        rcases h' with h | h | h
        · exact absurd h.1 hl
        · exact absurd hp h.2.1
        · exact h.2
      exact ⟨e.1.trans e'.1.symm, e.2.trans e'.2.symm⟩
    · have e : r = zAgg ∧ c = 1 := by
        rcases h with h | h | h
        · exact absurd h.1 hl
        · exact h.2.2
        · exact absurd h.1 hp
      have e' : r' = zAgg ∧ c' = 1 := by
        rcases h' with h | h | h
        · exact absurd h.1 hl
        · exact h.2.2
        · exact absurd h.1 hp
      exact ⟨e.1.trans e'.1.symm, e.2.trans e'.2.symm⟩

theorem AggP.of_one {s : GSam} (h : samB s = true) : AggP (one s) := by
  rw [samB_iff] at h
  exact Or.inr ⟨by simp [one], by simp [one], by simp only [one]; omega, by simp only [one]; omega, by simp only [one]; omega, by simp only [one]; omega, by simp [one], by simp [one], by simp [one], by simp [one], by simp [one], by simp [one]⟩

theorem mergeAll_ones : ∀ (l : List GAgg) (acc : GAgg), (∀ x ∈ l, x.cnt = 1) → acc.cnt + l.length ≤ 100000 → mergeAll acc l = (l.foldl gMerge acc, 0)
  | [], acc, _, _ => rfl
  | x :: l, acc, h1, h2 => by
    have hx := h1 x (by simp)
    simp only [List.length_cons] at h2
    have hc : (gMerge acc x).cnt = acc.cnt + 1 := by rw [gMerge_cnt, hx]
    unfold mergeAll
    rw [if_neg (by omega), List.foldl_cons]
    exact mergeAll_ones l _ (fun y hy => h1 y (by simp [hy])) (by omega)

theorem mergeAll_of {xs : List GSam} (h : xs.length ≤ 4096) : mergeAll zAgg (xs.map one) = (gOf xs, 0) :=
  mergeAll_ones _ _ (fun x hx => by obtain ⟨s, _, rfl⟩ := List.mem_map.1 hx; rfl) (by simp [zAgg]; omega)

theorem infoAgg : (Tryz.prog.info? 99).map (fun i => (i.zero, i.size, i.bytes)) = some (some (.agg #[.int .i64 0, .int .i64 0, .int .i64 0, .int .i64 0, .int .i64 0, .int .i64 0]), 6, 48) := by kernel_rfl

def zeroAggs (n : Nat) : Obj := .cells (madeCells #[.int .i64 0, .int .i64 0, .int .i64 0, .int .i64 0, .int .i64 0, .int .i64 0] (n * 6)) 99

theorem zeroAggs_sl (n : Nat) (w : World) : AggsAt (w.alloc (zeroAggs n)) (w.heap.size + 1) (some ⟨w.heap.size, 0, none⟩) (List.replicate n zAgg) :=
  made_sl GAgg.vals zAgg 6 n 99 w _ rfl rfl

end Go.Proofs.YtjmfffmjfbpgjaaGreatDoor

/- Contracts of the models l02Of and AggOf: the aggregate of samples, and the code. Conditions: values in their bounds (l02Of); none beside a length's own bound (AggOf). -/
namespace Go.Proofs.YtjmfffmjfbpgjaaGreatDoor
open Go.ChangeShapes Go.WideShapes Go.ChangeAt Go.RowKit
set_option linter.unusedVariables false

/-- so many, and a sum that they can make -/
def Part (acc : GAgg) (k : Nat) : Prop := acc.cnt = k ∧ -((k : Int) * 1000000) ≤ acc.sum ∧ acc.sum ≤ (k : Int) * 1000000

theorem Part.step {acc : GAgg} {k : Nat} (h : Part acc k) {s : GSam} (h1 : -1000000 ≤ s.v) (h2 : s.v ≤ 1000000) : Part (gMerge acc (one s)) (k + 1) := by
  obtain ⟨a, b, c⟩ := h
  refine ⟨by rw [gMerge_cnt, a]; simp [one], ?_⟩
  by_cases h0 : acc.cnt = 0
  · have e : gMerge acc (one s) = one s := by simp [gMerge, h0]
    rw [e]
    simp only [one]
    omega
  · have e : (gMerge acc (one s)).sum = acc.sum + s.v := by simp [gMerge, h0, one]
    rw [e]
    omega

theorem Part.small {acc : GAgg} {k : Nat} (h : Part acc k) (hk : k ≤ 1048576) : acc.small := by
  obtain ⟨a, b, c⟩ := h
  unfold GAgg.small
  omega

theorem one_small {s : GSam} (h1 : -1000000 ≤ s.v) (h2 : s.v ≤ 1000000) : (one s).small := by
  unfold GAgg.small one
  dsimp only
  omega

set_option maxRecDepth 100000 in
theorem l02Of_any (A : Option Addr) (c : Nat) (xs : List GSam) (B : Nat) (w : World) (h : SamsAt w B A xs) (hB : B ≤ w.heap.size) (hl : xs.length ≤ 1048576) (hv : ∀ s ∈ xs, -1000000 ≤ s.v ∧ s.v ≤ 1000000) :
    Calls Tryz.prog 171 #[.slice A xs.length c] w fun e w' => e = .returned (.agg #[.int .i64 (gOf xs).cnt, .int .i64 (gOf xs).sum, .int .i64 (gOf xs).mn, .int .i64 (gOf xs).mx, .int .i64 (gOf xs).fst, .int .i64 (gOf xs).lst]) ∧ Below w.heap.size w w' := by
  have H := Lib.hid h; clear h
  have Hv := Lib.hid hv; clear hv
  go_enter Tryz.func171, Tryz.ntmps171
  go_wp2_with fail
  obtain ⟨W, hW⟩ : ∃ W, W = (w.alloc (.cells #[.int .i64 0, .int .i64 0, .int .i64 0, .int .i64 0, .int .i64 0, .int .i64 0] 99)).alloc (.cells #[.int .i64 0, .int .i64 0, .int .i64 0, .int .i64 0, .int .i64 0, .int .i64 0] 99) := ⟨_, rfl⟩
  have t0 : Six W w.heap.size zAgg ∧ Free W (some ⟨w.heap.size, 0, none⟩) := by
    rw [hW]
    exact ⟨(Six.new w zAgg _).alloc (by simp) _, (free_alloc w _ _ 0).below (bal (Below.refl _ _) _) (fun b e => by simp [blk] at e; subst e; simp)⟩
  have t1 : Six W (w.heap.size + 1) zAgg ∧ Free W (some ⟨w.heap.size + 1, 0, none⟩) := by
    rw [hW]
    have := Six.new (w.alloc (.cells #[.int .i64 0, .int .i64 0, .int .i64 0, .int .i64 0, .int .i64 0, .int .i64 0] 99)) zAgg 99
    have g := free_alloc (w.alloc (.cells #[.int .i64 0, .int .i64 0, .int .i64 0, .int .i64 0, .int .i64 0, .int .i64 0] 99)) #[.int .i64 0, .int .i64 0, .int .i64 0, .int .i64 0, .int .i64 0, .int .i64 0] 99 0
    exact ⟨by simpa [zAgg] using this, by simpa using g⟩
  have b0 : Below w.heap.size w W := by rw [hW]; exact bal (bal (Below.refl _ _) _) _
  have s0 : w.heap.size + 1 < W.heap.size := by rw [hW]; simp
  rw [← hW]
  clear hW
  have T0 := Lib.hid t0; clear t0
  have T1 := Lib.hid t1; clear t1
  generalize hx0 : w.heap.size = x0 at *
  have Hx0 := Lib.hid hx0; clear hx0
  go_loopw [4] (fun i wr => ∃ (k : Nat) (acc : GAgg), k ≤ xs.length ∧ i = .int .i64 k ∧ Hid (acc = ((xs.take k).map one).foldl gMerge zAgg) ∧ Hid (Part acc k) ∧ Hid (Six wr (x0 + 1) acc ∧ Free wr (some ⟨x0 + 1, 0, none⟩)) ∧ Hid (Six wr x0 zAgg ∧ Free wr (some ⟨x0, 0, none⟩)) ∧ Below x0 w wr ∧ x0 + 1 < wr.heap.size) (fun i _ => xs.length - (intOf i).toNat)
  case atStart => exact ⟨0, zAgg, by omega, rfl, Lib.hid (by simp), Lib.hid ⟨rfl, by simp [zAgg], by simp [zAgg]⟩, T1, T0, b0, s0⟩
  case round =>
    clear T0 T1 b0 s0
    obtain ⟨k, acc, hk, rfl, Hm, Ha, Hacc, Hz, hb, hs⟩ := hrel
    by_cases hlt : k < xs.length
    · obtain ⟨b1, o1, rfl, hb1, p0, p1⟩ := SamsAt.sam (Sl.below H.out hb hB) hlt
      obtain ⟨⟨q0, q1, q2, q3, q4, q5⟩, _⟩ := Hacc.out
      have hvk := Hv.out xs[k] (List.getElem_mem hlt)
      have HO := Lib.hid (one_small hvk.1 hvk.2)
      have HP := Lib.hid (Ha.out.step hvk.1 hvk.2)
      have HF := Lib.hid (show gMerge acc (one xs[k]) = ((xs.take (k + 1)).map one).foldl gMerge zAgg by rw [List.take_succ_eq_append_getElem hlt, List.map_append, List.foldl_append, Hm.out]; rfl)
      clear hvk
      go_wp2_with fail
      refine (l02Merge_m acc (one xs[k]) (Ha.out.small (by omega)) HO.out _).mono ?_
      rintro e w2 ⟨m, rfl, hm, hb2⟩
      have hb3 : Below x0 w w2 := hb.trans (hb2.mono (by omega))
      have hs2 : x0 + 1 < w2.heap.size := by have := hb2.size; omega
      have Hacc2 := Lib.hid (And.intro (Hacc.out.1.below hb2 (by omega)) (Hacc.out.2.below hb2 (fun b e => by simp [blk] at e; omega)))
      have Hz2 := Lib.hid (And.intro (Hz.out.1.below hb2 (by omega)) (Hz.out.2.below hb2 (fun b e => by simp [blk] at e; omega)))
      rw [← hm] at HP HF
      clear Hacc Hz p0 p1 q0 q1 q2 q3 q4 q5 hb2 hb hm
      obtain ⟨⟨q0, q1, q2, q3, q4, q5⟩, fz⟩ := Hacc2.out
      have y0 := fz _ rfl 0
      have y1 := fz _ rfl 1
      have y2 := fz _ rfl 2
      have y3 := fz _ rfl 3
      have y4 := fz _ rfl 4
      have y5 := fz _ rfl 5
      clear fz
      go_wp2
      go_roundw
      case rel => exact ⟨k + 1, m, by omega, by go_num, HF, HP, Lib.hid ⟨setAgg_six Hacc2.out.1 m, setAgg_free Hacc2.out.2 _ m⟩, Lib.hid ⟨setAgg_other Hz2.out.1 (by omega) m, setAgg_free Hz2.out.2 _ m⟩, setAgg_below hb3 (by omega) m, by exact (setAgg_size w2 (x0 + 1) m).symm ▸ hs2⟩
      case measure => simp [intOf]; omega
    · obtain rfl : k = xs.length := by omega
      have HG := Lib.hid (show acc = gOf xs by rw [Hm.out, List.take_of_length_le (Nat.le_refl _)]; rfl)
      clear Hm
      obtain ⟨⟨q0, q1, q2, q3, q4, q5⟩, _⟩ := Hacc.out
      obtain ⟨z0, z1, z2, z3, z4, z5⟩ : (wr.cell? ⟨x0, 0, none⟩ = some (.int .i64 0) ∧ wr.cell? ⟨x0, 1, none⟩ = some (.int .i64 0) ∧ wr.cell? ⟨x0, 2, none⟩ = some (.int .i64 0) ∧ wr.cell? ⟨x0, 3, none⟩ = some (.int .i64 0) ∧ wr.cell? ⟨x0, 4, none⟩ = some (.int .i64 0) ∧ wr.cell? ⟨x0, 5, none⟩ = some (.int .i64 0)) := Hz.out.1
      have fz := Hz.out.2
      have y0 := fz _ rfl 0
      have y1 := fz _ rfl 1
      have y2 := fz _ rfl 2
      have y3 := fz _ rfl 3
      have y4 := fz _ rfl 4
      have y5 := fz _ rfl 5
      clear fz
      go_wp2
      refine bodyPost_ret (v := .agg #[.int .i64 acc.cnt, .int .i64 acc.sum, .int .i64 acc.mn, .int .i64 acc.mx, .int .i64 acc.fst, .int .i64 acc.lst]) (by simp [results, Tryz.results171, go_sem, *]) rfl ⟨by rw [HG.out], ?_⟩
      rw [Hx0.out]
      exact setAgg_below hb (Nat.le_refl _) acc

theorem l02Of_m (A : Option Addr) (c : Nat) (xs : List GSam) (B : Nat) (w : World) (h : SamsAt w B A xs) (hB : B ≤ w.heap.size) (hl : xs.length ≤ 1048576) (hv : ∀ s ∈ xs, -1000000 ≤ s.v ∧ s.v ≤ 1000000) :
    Calls Tryz.prog 171 #[.slice A xs.length c] w fun e w' => ∃ r, e = .returned (.agg #[.int .i64 r.cnt, .int .i64 r.sum, .int .i64 r.mn, .int .i64 r.mx, .int .i64 r.fst, .int .i64 r.lst]) ∧ r = gOf xs ∧ Below w.heap.size w w' :=
  (l02Of_any A c xs B w h hB hl hv).mono fun e w' ⟨he, hb⟩ => ⟨_, he, rfl, hb⟩

theorem SamP.vals {xs : List GSam} (h : SamP xs) : ∀ s ∈ xs, -1000000 ≤ s.v ∧ s.v ≤ 1000000 := fun s hs => by
  obtain ⟨i, hi, rfl⟩ := List.mem_iff_getElem.1 hs
  have := samB_iff.1 (h.2 i hi hi).1
  omega

end Go.Proofs.YtjmfffmjfbpgjaaGreatDoor

/- Aggregates of parts, put together in order, are the aggregate of all: plain lemmas. No Go text is walked here. -/
namespace Go.Proofs.YtjmfffmjfbpgjaaGreatDoor
open Go.RowKit
set_option linter.unusedVariables false

/-- of nothing all is zero -/
def Good (a : GAgg) : Prop := 0 ≤ a.cnt ∧ (a.cnt = 0 → a = zAgg)

theorem AggP.good {a : GAgg} (h : AggP a) : Good a := by
  rcases h with h | h
  · subst h; exact ⟨by simp [zAgg], fun _ => rfl⟩
  · exact ⟨by omega, fun e => by omega⟩

theorem gMerge_zero {a : GAgg} (h : Good a) : gMerge a zAgg = a := by
  by_cases h0 : a.cnt = 0
  · rw [h.2 h0]; simp [gMerge, zAgg]
  · simp [gMerge, h0, zAgg]

theorem gMerge_assoc {a b c : GAgg} (ha : Good a) (hb : Good b) (hc : Good c) : gMerge (gMerge a b) c = gMerge a (gMerge b c) := by
  have ha0 := ha.1
  have hb0 := hb.1
  have hc0 := hc.1
  by_cases h0 : a.cnt = 0
  · simp [gMerge, h0]
  by_cases h1 : b.cnt = 0
  · simp [gMerge, h0, h1]
  have e1 : gMerge a b = ⟨a.cnt + b.cnt, a.sum + b.sum, min a.mn b.mn, max a.mx b.mx, a.fst, b.lst⟩ := by simp [gMerge, h0, h1]
  have n1 : ¬ (a.cnt + b.cnt = 0) := by omega
  by_cases h2 : c.cnt = 0
  · have e2 : gMerge b c = b := by simp [gMerge, h1, h2]
    rw [e1, e2, e1]
    simp [gMerge, n1, h2]
  · have e2 : gMerge b c = ⟨b.cnt + c.cnt, b.sum + c.sum, min b.mn c.mn, max b.mx c.mx, b.fst, c.lst⟩ := by simp [gMerge, h1, h2]
    have n2 : ¬ (b.cnt + c.cnt = 0) := by omega
    rw [e1, e2]
    simp only [gMerge, n1, n2, h0, h2, if_false]
    simp only [GAgg.mk.injEq, and_true]
    refine ⟨by omega, by omega, by omega, by omega⟩

theorem good_one (s : GSam) : Good (one s) := ⟨by simp [one], fun h => by simp [one] at h⟩

theorem good_merge {a b : GAgg} (ha : Good a) (hb : Good b) : Good (gMerge a b) := by
  refine ⟨by rw [gMerge_cnt]; have := ha.1; have := hb.1; omega, fun h => ?_⟩
  rw [gMerge_cnt] at h
  have a0 : a.cnt = 0 := by have := ha.1; have := hb.1; omega
  have b0 : b.cnt = 0 := by have := ha.1; have := hb.1; omega
  rw [ha.2 a0, hb.2 b0]
  simp [gMerge, zAgg]

theorem good_fold : ∀ (l : List GSam) (acc : GAgg), Good acc → Good ((l.map one).foldl gMerge acc)
  | [], acc, h => h
  | s :: l, acc, h => good_fold l _ (good_merge h (good_one s))

theorem good_z : Good zAgg := ⟨by simp [zAgg], fun _ => rfl⟩

theorem fold_out : ∀ (l : List GSam) (acc : GAgg), Good acc → (l.map one).foldl gMerge acc = gMerge acc ((l.map one).foldl gMerge zAgg)
  | [], acc, h => (gMerge_zero h).symm
  | s :: l, acc, h => by
    simp only [List.map_cons, List.foldl_cons]
    rw [fold_out l _ (good_merge h (good_one s)), gMerge_z, fold_out l _ (good_one s), gMerge_assoc h (good_one s) (good_fold l _ good_z)]

theorem gOf_append (a b : List GSam) : gOf (a ++ b) = gMerge (gOf a) (gOf b) := by
  unfold gOf
  rw [List.map_append, List.foldl_append, fold_out b _ (good_fold a _ good_z)]

theorem gOf_cnt (l : List GSam) : (gOf l).cnt = l.length := by
  have : ∀ (l : List GSam) (acc : GAgg), ((l.map one).foldl gMerge acc).cnt = acc.cnt + l.length := by
    intro l
    induction l with
    | nil => intro acc; simp
    | cons s l ih => intro acc; simp only [List.map_cons, List.foldl_cons, ih, gMerge_cnt, List.length_cons]; simp only [one]; omega
  have := this l zAgg
  simpa [gOf, zAgg] using this

theorem aggP_fold : ∀ (l : List GSam) (acc : GAgg), AggP acc → (∀ s ∈ l, samB s = true) → acc.cnt + l.length ≤ 100000 → AggP ((l.map one).foldl gMerge acc)
  | [], acc, h, _, _ => h
  | s :: l, acc, h, hs, hc => by
    simp only [List.length_cons] at hc
    have e : (gMerge acc (one s)).cnt = acc.cnt + 1 := by rw [gMerge_cnt]; simp [one]
    exact aggP_fold l _ (h.merge (AggP.of_one (hs s (by simp))) (by omega)) (fun x hx => hs x (by simp [hx])) (by omega)

/-- neighbours' times rise -/
def Adj (l : List GSam) : Prop := ∀ i (h : i + 1 < l.length), (l[i]'(by omega)).t < l[i + 1].t

theorem Adj.take {l : List GSam} (h : Adj l) (n : Nat) : Adj (l.take n) := fun i hi => by
  simp only [List.length_take] at hi
  simpa using h i (by omega)

theorem Adj.drop {l : List GSam} (h : Adj l) (n : Nat) : Adj (l.drop n) := fun i hi => by
  simp only [List.length_drop] at hi
  have := h (n + i) (by omega)
  simpa [Nat.add_assoc] using this

theorem samP_of {l : List GSam} (h : Adj l) (hs : ∀ s ∈ l, samB s = true) (hl : l.length ≤ 4096) : SamP l :=
  ⟨hl, fun j hj _ => ⟨hs _ (List.getElem_mem hj), fun i hi => by subst hi; exact h i hj⟩⟩

theorem adj_append {fr F fr' F' : Int} {a b : List GSam} (ha : RiseT fr F a) (hb : RiseT fr' F' b) (hF : F ≤ fr') : Adj (a ++ b) := by
  intro i hi
  simp only [List.length_append] at hi
  by_cases h1 : i + 1 < a.length
  · rw [List.getElem_append_left (by omega), List.getElem_append_left h1]; exact ha.2.1 i h1
  · by_cases h2 : i < a.length
    · rw [List.getElem_append_left h2, List.getElem_append_right (by omega)]
      have x := ha.1 a[i] (List.getElem_mem h2)
      have y := hb.1 (b[i + 1 - a.length]'(by omega)) (List.getElem_mem (by omega))
      omega
    · rw [List.getElem_append_right (by omega), List.getElem_append_right (by omega)]
      have := hb.2.1 (i - a.length) (by omega)
      have e : i + 1 - a.length = i - a.length + 1 := by omega
      simpa [e] using this

end Go.Proofs.YtjmfffmjfbpgjaaGreatDoor

/- Contracts of the model's drawn aggregates: (*l00Src).agg and AggDrawn: what is drawn is a right aggregate. No conditions beside a code's length. -/
namespace Go.Proofs.YtjmfffmjfbpgjaaGreatDoor
open Go.ChangeShapes Go.WideShapes Go.ChangeAt Go.RowKit
set_option linter.unusedVariables false

theorem gOf_right {fr F : Int} {xs : List GSam} (h : RiseT fr F xs) (h0 : 0 ≤ fr) (h1 : F ≤ 100000) (hl : (xs.length : Int) ≤ 100) : AggP (gOf xs) :=
  aggP_fold xs zAgg (Or.inl rfl) (fun s hs => by
    obtain ⟨a1, a2, a3, a4⟩ := h.1 s hs
    simp [samB, inB]
    omega) (by simp [zAgg]; omega)

set_option maxRecDepth 100000 in
theorem srcAgg_any (b q : Nat) (w : World) (h : Src w b q) (hb : b < w.heap.size) (hq : q ≤ 1000000) : Calls Tryz.prog 121 #[.pointer (some ⟨b, 0, none⟩)] w fun e w' => ∃ a, e = .returned (.agg #[.int .i64 a.cnt, .int .i64 a.sum, .int .i64 a.mn, .int .i64 a.mx, .int .i64 a.fst, .int .i64 a.lst]) ∧ AggP a ∧ a.cnt ≤ 6 ∧ Src w' b (q + 1000) ∧ w.grownBy w' (some b) := by
  have H := Lib.hid h; clear h
  go_enter Tryz.func121, Tryz.ntmps121
  go_wp2_with fail
  have hZ := ZeroAt.new w 99
  have hbw : Below w.heap.size w (w.alloc (.cells #[.int .i64 0, .int .i64 0, .int .i64 0, .int .i64 0, .int .i64 0, .int .i64 0] 99)) := bal (Below.refl _ _) _
  generalize w.alloc (.cells #[.int .i64 0, .int .i64 0, .int .i64 0, .int .i64 0, .int .i64 0, .int .i64 0] 99) = w0 at *
  have HS0 := Lib.hid (H.out.keep (hbw.mono (by omega)))
  have hz0 : w.heap.size < w0.heap.size := hZ.2.2
  have HZ := Lib.hid hZ
  refine (srcSamples_any 0 6 b q w0 HS0.out (by omega) (by omega) (by omega) (by omega) (by omega) (by omega)).mono ?_
  rintro e w1 ⟨A, c, xs, F, rfl, hO, hR, hlen, hS1, hg1⟩
  have HR := Lib.hid (show AggP (gOf xs) ∧ (gOf xs).cnt ≤ 6 from ⟨gOf_right hR (by omega) (by have := hR.2.2.2; omega) (by omega), by rw [gOf_cnt]; exact hlen⟩)
  have HV := Lib.hid (show ∀ s ∈ xs, -1000000 ≤ s.v ∧ s.v ≤ 1000000 from fun s hs => (hR.1 s hs).2.2)
  have HS1 := Lib.hid hS1
  obtain ⟨hsl, _, _, _⟩ := OwnSl.sl hO (fun x => rfl)
  have Hsl := Lib.hid hsl
  have HG1 := Lib.hid (grown_trans (grown_of_below hbw (some b)) hg1)
  have hxb : w.heap.size ≠ b := by omega
  have hZ1 : ZeroAt w1 w.heap.size := by
    have hblk := hg1.block w.heap.size hz0 (fun e => hxb (by injection e))
    refine ⟨?_, fun b' e i => ?_, Nat.lt_of_lt_of_le hz0 hg1.size⟩
    · obtain ⟨z0, z1, z2, z3, z4, z5⟩ := HZ.out.1
      exact ⟨(World.cell?_of_block (a := ⟨w.heap.size, 0, none⟩) hblk).trans z0, (World.cell?_of_block (a := ⟨w.heap.size, 1, none⟩) hblk).trans z1, (World.cell?_of_block (a := ⟨w.heap.size, 2, none⟩) hblk).trans z2, (World.cell?_of_block (a := ⟨w.heap.size, 3, none⟩) hblk).trans z3, (World.cell?_of_block (a := ⟨w.heap.size, 4, none⟩) hblk).trans z4, (World.cell?_of_block (a := ⟨w.heap.size, 5, none⟩) hblk).trans z5⟩
    · simp [blk] at e
      subst e
      have := HZ.out.2.1 w.heap.size rfl i
      unfold World.frozen? at this ⊢
      rw [hblk]
      exact this
  have HZ1 := Lib.hid hZ1
  clear hO hR hS1 hsl hg1 hbw hZ HZ hZ1 HS0
  generalize hx0 : w.heap.size = x0 at *
  have Hx0 := Lib.hid hx0; clear hx0
  go_wp2_with fail
  refine (l02Of_m A c xs w1.heap.size w1 Hsl.out (Nat.le_refl _) (by omega) HV.out).mono ?_
  rintro e w2 ⟨r, rfl, hr, hb2⟩
  rw [← hr] at HR
  have HZ2 := HZ1.out.below hb2 HZ1.out.2.2
  have HS2 := Lib.hid (HS1.out.keep (hb2.mono (by have := HS1.out.lt; omega)))
  have HG2 := Lib.hid (grown_trans HG1.out (grown_of_below hb2 (some b)))
  obtain ⟨⟨z0, z1, z2, z3, z4, z5⟩, y0', y1', y2', y3', y4', y5'⟩ := HZ2.cells
  clear HZ1 HZ2 HS1 HG1 hb2 hr Hsl HV
  go_wp2
  refine bodyPost_ret (v := .agg #[.int .i64 r.cnt, .int .i64 r.sum, .int .i64 r.mn, .int .i64 r.mx, .int .i64 r.fst, .int .i64 r.lst]) (by simp [results, Tryz.results121, go_sem, *]) rfl ⟨r, rfl, HR.out.1, HR.out.2, ?_, ?_⟩
  · refine HS2.out.keep (setAgg_below (Below.refl _ _) (by omega) r)
  · have hg := HG2.out
    have hx := Hx0.out
    exact grown_setCell (grown_setCell (grown_setCell (grown_setCell (grown_setCell (grown_setCell hg _ (Or.inr (by simp; omega)) _) _ (Or.inr (by simp; omega)) _) _ (Or.inr (by simp; omega)) _) _ (Or.inr (by simp; omega)) _) _ (Or.inr (by simp; omega)) _) _ (Or.inr (by simp; omega)) _

end Go.Proofs.YtjmfffmjfbpgjaaGreatDoor

/- The model's drawn buckets: right ones, at most six. Conditions: the source has not been asked too often. -/
namespace Go.Proofs.YtjmfffmjfbpgjaaGreatDoor
open Go.ChangeShapes Go.WideShapes Go.ChangeAt Go.RowKit
set_option linter.unusedVariables false
set_option linter.unusedSimpArgs false

/-- buckets of the first k windows of five -/
def RiseB (k : Nat) (xs : List GBkt) : Prop := xs.length ≤ k ∧ (∀ x ∈ xs, AggP x.agg ∧ 1 ≤ x.agg.cnt ∧ 0 ≤ x.beg ∧ x.beg < 5 * (k : Int)) ∧ xs.Pairwise (fun a b => a.beg < b.beg)

theorem RiseB.nil (k : Nat) : RiseB k [] := ⟨by simp, by simp, List.Pairwise.nil⟩

theorem RiseB.more {k : Nat} {xs : List GBkt} (h : RiseB k xs) : RiseB (k + 1) xs :=
  ⟨by have := h.1; omega, fun x hx => by have := h.2.1 x hx; exact ⟨this.1, this.2.1, this.2.2.1, by have := this.2.2.2; omega⟩, h.2.2⟩

theorem RiseB.snoc {k : Nat} {xs : List GBkt} {a : GAgg} (h : RiseB k xs) (ha : AggP a) (hc : 1 ≤ a.cnt) : RiseB (k + 1) (xs ++ [⟨5 * (k : Int), a⟩]) := by
  refine ⟨by have := h.1; simp; omega, fun x hx => ?_, ?_⟩
  · rcases List.mem_append.1 hx with hx | hx
    · have := h.2.1 x hx
      exact ⟨this.1, this.2.1, this.2.2.1, by have := this.2.2.2; omega⟩
    · simp at hx
      subst hx
      exact ⟨ha, hc, by dsimp only; omega, by dsimp only; omega⟩
  · rw [List.pairwise_append]
    refine ⟨h.2.2, by simp, fun x hx y hy => ?_⟩
    simp at hy
    subst hy
    exact (h.2.1 x hx).2.2.2

theorem RiseB.right {k : Nat} {xs : List GBkt} (h : RiseB k xs) (hk : k ≤ 8) : BktP xs := by
  refine ⟨by have := h.1; omega, fun j hj _ => ?_⟩
  have hx := h.2.1 xs[j] (List.getElem_mem hj)
  refine ⟨inB_iff.2 ⟨hx.2.2.1, by have := hx.2.2.2; omega⟩, hx.1, by have := hx.2.1; omega, fun i hi => ?_⟩
  exact List.pairwise_iff_getElem.1 h.2.2 i j (by omega) hj (by omega)

theorem bktv_one (s : GBkt) : ∀ u ∈ GBkt.vals s, u.oneCell' = true := by
  intro u hu
  simp [GBkt.vals] at hu
  rcases hu with rfl | rfl | rfl | rfl | rfl | rfl | rfl <;> rfl

theorem new_bktv (w : World) (s : GBkt) (e : TypeId) : Sl GBkt.vals 7 (w.alloc (.cells #[.int .i64 s.beg, .int .i64 s.agg.cnt, .int .i64 s.agg.sum, .int .i64 s.agg.mn, .int .i64 s.agg.mx, .int .i64 s.agg.fst, .int .i64 s.agg.lst] e)) (w.heap.size + 1) (some ⟨w.heap.size, 0, none⟩) [s] := by
  intro _
  refine ⟨w.heap.size, 0, rfl, by omega, fun k hk j v hv => ?_⟩
  obtain rfl : k = 0 := by simpa using hk
  rw [World.cell?_alloc_new]
  simp only [Nat.zero_mul, Nat.add_zero, Nat.zero_add, List.getElem_cons_zero] at hv ⊢
  simpa [GBkt.vals] using hv

theorem new_bktv2 (w : World) (o : Obj) (s : GBkt) (e : TypeId) : Sl GBkt.vals 7 ((w.alloc o).alloc (.cells #[.int .i64 s.beg, .int .i64 s.agg.cnt, .int .i64 s.agg.sum, .int .i64 s.agg.mn, .int .i64 s.agg.mx, .int .i64 s.agg.fst, .int .i64 s.agg.lst] e)) (w.heap.size + 2) (some ⟨w.heap.size + 1, 0, none⟩) [s] := by
  have h := new_bktv (w.alloc o) s e
  have hz : (w.alloc o).heap.size = w.heap.size + 1 := by simp
  rw [hz] at h
  exact h

theorem infoBkt' : (Tryz.prog.info? 101).map (fun i => (i.zero, i.size, i.bytes)) = some (some (.agg #[.int .i64 0, .int .i64 0, .int .i64 0, .int .i64 0, .int .i64 0, .int .i64 0, .int .i64 0]), 7, 56) := by kernel_rfl

set_option maxRecDepth 100000 in
set_option maxHeartbeats 1000000 in
theorem srcBuckets_any (b q : Nat) (w : World) (h : Src w b q) (hb : b < w.heap.size) (hq : q ≤ 100000) :
    Calls Tryz.prog 53 #[.pointer (some ⟨b, 0, none⟩)] w fun e w' => ∃ (A : Option Addr) (c : Nat) (xs : List GBkt), e = .returned (.slice A xs.length c) ∧ OwnSl GBkt.vals 7 101 w.heap.size w' (.slice A xs.length c) xs ∧ RiseB 6 xs ∧ w.grownBy w' (some b) := by
  have H := Lib.hid h; clear h
  go_enter Tryz.func53, Tryz.ntmps53
  go_wp2_with fail
  obtain ⟨W, hW⟩ : ∃ W, W = w.alloc (.cells #[] 101) := ⟨_, rfl⟩
  have o0 : OwnSl GBkt.vals 7 101 w.heap.size W (.slice (some ⟨w.heap.size, 0, none⟩) 0 0) [] := by rw [hW]; exact own_empty _ _ _ w
  have b0 : Below w.heap.size w W := by rw [hW]; exact bal (Below.refl _ _) _
  rw [← hW]
  clear hW
  have O0 := Lib.hid o0; clear o0
  have HS0 := Lib.hid (H.out.keep (b0.mono (by omega)))
  have HG0 := Lib.hid (grown_of_below b0 (some b))
  clear H b0
  go_loopw [3, 4] (fun o i wr => ∃ (A : Option Addr) (c : Nat) (xs : List GBkt) (k p : Nat), o = .slice A xs.length c ∧ i = .int .i64 k ∧ k ≤ 6 ∧ p ≤ q + 1000 * k ∧ Hid (RiseB k xs) ∧ Hid (OwnSl GBkt.vals 7 101 w.heap.size wr (.slice A xs.length c) xs) ∧ Hid (Src wr b p) ∧ Hid (w.grownBy wr (some b))) (fun _ i _ => 6 - (intOf i).toNat)
  case atStart => exact ⟨_, 0, [], 0, q, rfl, rfl, by omega, by omega, Lib.hid (RiseB.nil 0), O0, HS0, HG0⟩
  case round =>
    clear O0 HS0 HG0
    obtain ⟨A, c, xs, k, p, rfl, rfl, hk, hp, HR, HO, HS, HG⟩ := hrel
    by_cases hlt : k < 6
    · have d0 : decide ((k : Int) < 6) = true := by simp; omega
      have hbr : b < wr.heap.size := Nat.lt_of_lt_of_le hb HG.out.size
      have hxl : xs.length ≤ k := HR.out.1
      go_wp2_with fail
      refine (srcAgg_any b p wr HS.out hbr (by omega)).mono ?_
      rintro e w1 ⟨a, rfl, ha, hc6, hs1, hg1⟩
      have HAP := Lib.hid ha
      have Hs1 := Lib.hid hs1; have Hg1 := Lib.hid hg1
      have sz1 : wr.heap.size ≤ w1.heap.size := hg1.size
      clear ha hs1 hg1
      have hne : (Value.slice A xs.length c).ownBlock = none ∨ (Value.slice A xs.length c).ownBlock ≠ some b := by
        rw [ownBlock_blk]
        by_cases hA : blk A = none
        · exact Or.inl hA
        · refine Or.inr (fun e => ?_)
          have := World.ownsRow.lt HO.out b (by rw [ownBlock_blk]; exact e)
          omega
      have HO1 := Lib.hid (HO.out.kept Hg1.out hne)
      have sw : w.heap.size ≤ wr.heap.size := HG.out.size
      by_cases hpos : 0 < a.cnt
      · have dp : decide (0 < a.cnt) = true := by simpa using hpos
        have HR2 := Lib.hid (HR.out.snoc HAP.out (show 1 ≤ a.cnt by omega))
        clear hpos
        have bB : Below w1.heap.size w1 ((w1.alloc (.cells #[.int .i64 a.cnt, .int .i64 a.sum, .int .i64 a.mn, .int .i64 a.mx, .int .i64 a.fst, .int .i64 a.lst] 99)).alloc (.cells #[.int .i64 (5 * (k : Int)), .int .i64 a.cnt, .int .i64 a.sum, .int .i64 a.mn, .int .i64 a.mx, .int .i64 a.fst, .int .i64 a.lst] 101)) := bal (bal (Below.refl _ w1) _) _
        have HB := Lib.hid bB
        have HO4 := Lib.hid (HO1.out.below bB)
        clear bB
        have HN := Lib.hid (new_bktv2 w1 (.cells #[.int .i64 a.cnt, .int .i64 a.sum, .int .i64 a.mn, .int .i64 a.mx, .int .i64 a.fst, .int .i64 a.lst] 99) ⟨5 * (k : Int), a⟩ 101)
        have szB : ((w1.alloc (.cells #[.int .i64 a.cnt, .int .i64 a.sum, .int .i64 a.mn, .int .i64 a.mx, .int .i64 a.fst, .int .i64 a.lst] 99)).alloc (.cells #[.int .i64 (5 * (k : Int)), .int .i64 a.cnt, .int .i64 a.sum, .int .i64 a.mn, .int .i64 a.mx, .int .i64 a.fst, .int .i64 a.lst] 101)).heap.size = w1.heap.size + 2 := by simp
        have SzB := Lib.hid szB; clear szB
        go_wp2_with (at_builtin; refine wpList_append_sl GBkt.vals 7 56 (fun _ => rfl) bktv_one 30 101 _ infoBkt' rfl (by omega) Tryz.underlying30 rfl _ _ rfl w.heap.size xs [⟨5 * (k : Int), a⟩] (.slice A xs.length c) rfl HO4.out (some ⟨w1.heap.size + 1, 0, none⟩) 1 (w1.heap.size + 2) rfl HN.out (by simp [maxLen]; omega) (by simp; omega) (by simp; omega) ?_; intro v' w5 hO5 hg5 _; obtain ⟨A5, c5, rfl⟩ := hO5.form; have HO5 := Lib.hid hO5; clear hO5; have Hg5 := Lib.hid hg5; clear hg5)
        have hgn : w.grownBy w5 (some b) := grown_new (grown_trans HG.out (grown_trans Hg1.out (grown_of_below HB.out _))) Hg5.out (fun g e => (World.ownsRow.lt HO4.out g e).1)
        have hsn : Src w5 b (p + 1000) := (Hs1.out.keep (HB.out.mono (by omega))).keep (below_of_grown Hg5.out (by rw [SzB.out]; omega) (fun g e => by have := (World.ownsRow.lt HO4.out g e).1; omega))
        have Hgn := Lib.hid hgn; clear hgn
        have Hsn := Lib.hid hsn; clear hsn
        go_roundw
        case rel => exact ⟨A5, c5, xs ++ [⟨5 * (k : Int), a⟩], k + 1, p + 1000, by simp, by go_num, by omega, by omega, HR2, HO5, Hsn, Hgn⟩
        case measure => simp [intOf]; omega
      · have dp : decide (0 < a.cnt) = false := by simpa using hpos
        clear hpos
        have HB := Lib.hid (bal (Below.refl _ w1) (.cells #[.int .i64 a.cnt, .int .i64 a.sum, .int .i64 a.mn, .int .i64 a.mx, .int .i64 a.fst, .int .i64 a.lst] 99))
        have HO4 := Lib.hid (HO1.out.below HB.out)
        have Hgn := Lib.hid (grown_trans HG.out (grown_trans Hg1.out (grown_of_below HB.out (some b))))
        have Hsn := Lib.hid (Hs1.out.keep (HB.out.mono (by omega)))
        have HR2 := Lib.hid HR.out.more
        go_wp2_with fail
        go_roundw
        case rel => exact ⟨A, c, xs, k + 1, p + 1000, rfl, by go_num, by omega, by omega, HR2, HO4, Hsn, Hgn⟩
        case measure => simp [intOf]; omega
    · obtain rfl : k = 6 := by omega
      go_wp2
      go_ret
      exact ⟨A, c, xs, rfl, HO.out, HR.out, HG.out⟩

theorem bucketsOf_any (A : Option Addr) (bs : List Int) (c : Nat) (w : World) (h : BytesAt w w.heap.size A bs) (hx : ∀ x ∈ bs, 0 ≤ x ∧ x ≤ 255) (hl : bs.length ≤ 1048576) :
    Calls Tryz.prog 13 #[.slice A bs.length c] w fun e w' => ∃ (A' : Option Addr) (c' : Nat) (xs : List GBkt),
      e = .returned (.slice A' xs.length c') ∧ OwnSl GBkt.vals 7 101 w.heap.size w' (.slice A' xs.length c') xs ∧ RiseB 6 xs ∧ Below w.heap.size w w' := by
  go_enter Tryz.func13, Tryz.ntmps13
  go_wp2_with fail
  refine (srcSource_any A bs c w h hx hl).mono ?_
  rintro e w1 ⟨rfl, hs, hb1⟩
  have Hs := Lib.hid hs; clear hs h hx
  have hlt : w.heap.size < w1.heap.size := Hs.out.lt
  go_wp2_with fail
  refine (srcBuckets_any w.heap.size 0 w1 Hs.out hlt (by omega)).mono ?_
  rintro e w2 ⟨A', c', xs, rfl, hO, hR, hg⟩
  have HO := Lib.hid hO; clear hO
  have HR := Lib.hid hR; clear hR
  have Hb := Lib.hid (hb1.trans (below_of_grown hg hb1.size (fun g e => by injection e; omega))); clear hg hb1
  go_wp2
  go_ret
  exact ⟨A', c', xs, rfl, ⟨HO.out.1, HO.out.2.imp id (fun ⟨g, cap, cur, e1, e2, e3⟩ => ⟨g, cap, cur, e1, by omega, e3⟩)⟩, HR.out, Hb.out⟩

end Go.Proofs.YtjmfffmjfbpgjaaGreatDoor
