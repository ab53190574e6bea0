/-
  Words for slices of buckets in memory, and contracts of the laws' own helpers on them (to, eq, sz).
-/
import Derived.Test.YtkpaocejpjhkpaaAggLaw
import Derived.Test.YtkpaocejpjhkpaaPuts
namespace Go.Proofs.Ytkpaocejpjhkpaa
open Go.ChangeShapes Go.WideShapes Go.ChangeAt Go.RowKit Go.Deep Go.Joins
set_option linter.unusedVariables false

/-- a bucket as data -/
structure GBkt where
  beg : Int
  agg : GAgg
deriving DecidableEq

def GBkt.vals (s : GBkt) : List Value := [.int .i64 s.beg, .int .i64 s.agg.cnt, .int .i64 s.agg.sum, .int .i64 s.agg.mn, .int .i64 s.agg.mx, .int .i64 s.agg.fst, .int .i64 s.agg.lst]

def GBkt.fit (s : GBkt) : Prop := I64 s.beg ∧ s.agg.fit

/-- a slice of buckets -/
def BktsAt (w : World) (B : Nat) (A : Option Addr) (xs : List GBkt) : Prop := Sl GBkt.vals 7 w B A xs

theorem BktsAt.bkt {w : World} {B : Nat} {A : Option Addr} {xs : List GBkt} (h : BktsAt w B A xs) {k : Nat} (hk : k < xs.length) :
    ∃ b off, A = some ⟨b, off, none⟩ ∧ b < B ∧ w.cell? ⟨b, off + k * 7, none⟩ = some (.int .i64 xs[k].beg) ∧ w.cell? ⟨b, off + k * 7 + 1, none⟩ = some (.int .i64 xs[k].agg.cnt) ∧ w.cell? ⟨b, off + k * 7 + 2, none⟩ = some (.int .i64 xs[k].agg.sum) ∧ w.cell? ⟨b, off + k * 7 + 3, none⟩ = some (.int .i64 xs[k].agg.mn) ∧ w.cell? ⟨b, off + k * 7 + 4, none⟩ = some (.int .i64 xs[k].agg.mx) ∧ w.cell? ⟨b, off + k * 7 + 5, none⟩ = some (.int .i64 xs[k].agg.fst) ∧ w.cell? ⟨b, off + k * 7 + 6, none⟩ = some (.int .i64 xs[k].agg.lst) := by
  obtain ⟨b, off, e, hb, hc⟩ := Sl.at_ h hk
  exact ⟨b, off, e, hb, hc 0 _ rfl, hc 1 _ rfl, hc 2 _ rfl, hc 3 _ rfl, hc 4 _ rfl, hc 5 _ rfl, hc 6 _ rfl⟩

theorem toAgg_at (a : GAgg) (w : World) : Calls Try.prog 56 #[.agg #[.int .i64 a.cnt, .int .i64 a.sum, .int .i64 a.mn, .int .i64 a.mx, .int .i64 a.fst, .int .i64 a.lst]] w fun e w' => e = .returned (.agg #[.int .i64 a.cnt, .int .i64 a.sum, .int .i64 a.mn, .int .i64 a.mx, .int .i64 a.fst, .int .i64 a.lst]) ∧ ∃ o1 o2 o3, w' = ((w.alloc o1).alloc o2).alloc o3 := by
  go_enter Try.func56, Try.ntmps56
  go_wp2
  refine bodyPost_ret (v := .agg #[.int .i64 a.cnt, .int .i64 a.sum, .int .i64 a.mn, .int .i64 a.mx, .int .i64 a.fst, .int .i64 a.lst]) (by simp [results, Try.results56, go_sem]) rfl ⟨rfl, ?_⟩
  exact ⟨_, _, _, rfl⟩

theorem toBucket_any (s : GBkt) (w : World) : Calls Try.prog 43 #[.agg #[.int .i64 s.beg, .int .i64 s.agg.cnt, .int .i64 s.agg.sum, .int .i64 s.agg.mn, .int .i64 s.agg.mx, .int .i64 s.agg.fst, .int .i64 s.agg.lst]] w fun e w' => e = .returned (.agg #[.int .i64 s.beg, .int .i64 s.agg.cnt, .int .i64 s.agg.sum, .int .i64 s.agg.mn, .int .i64 s.agg.mx, .int .i64 s.agg.fst, .int .i64 s.agg.lst]) ∧ Below w.heap.size w w' := by
  go_enter Try.func43, Try.ntmps43
  go_wp2_with (go_at_call 56; refine (toAgg_at s.agg _).mono ?_; rintro e w' ⟨rfl, o1, o2, o3, rfl⟩)
  refine bodyPost_ret (v := .agg #[.int .i64 s.beg, .int .i64 s.agg.cnt, .int .i64 s.agg.sum, .int .i64 s.agg.mn, .int .i64 s.agg.mx, .int .i64 s.agg.fst, .int .i64 s.agg.lst]) (by simp [results, Try.results43, go_sem]) rfl ⟨rfl, ?_⟩
  repeat' first | exact Below.refl _ _ | refine bal ?_ _ | refine bset ?_ (by simp) _

theorem eqBucket_any (a b : GBkt) (w : World) : Calls Try.prog 39 #[.agg #[.int .i64 a.beg, .int .i64 a.agg.cnt, .int .i64 a.agg.sum, .int .i64 a.agg.mn, .int .i64 a.agg.mx, .int .i64 a.agg.fst, .int .i64 a.agg.lst], .agg #[.int .i64 b.beg, .int .i64 b.agg.cnt, .int .i64 b.agg.sum, .int .i64 b.agg.mn, .int .i64 b.agg.mx, .int .i64 b.agg.fst, .int .i64 b.agg.lst]] w (IsBB (a = b) w) := by
  obtain ⟨a0, ga⟩ := a
  obtain ⟨b0, gb⟩ := b
  dsimp only
  by_cases h0 : a0 = b0
  · subst h0
    go_enter Try.func39, Try.ntmps39
    go_wp2_with fail
    refine (eqAgg_any ga gb _).mono ?_
    rintro e w1 ⟨be, hbe, rfl, hb1⟩
    have hb2 : Below w.heap.size w w1 := (bal (bal (Below.refl _ _) _) _).trans (hb1.mono (by simp; omega))
    cases be
    · have hn : ¬ ga = gb := fun h => by have := hbe.2 h; cases this
      have Hn := Lib.hid hn; clear hn hbe hb1
      go_wp2
      go_ret
      exact IsBB.no (fun h => Hn.out (by injection h)) hb2
    · have hy : ga = gb := hbe.1 rfl
      subst hy
      clear hbe hb1
      go_wp2
      go_ret
      exact IsBB.yes (by simp) hb2
  · have d0 : (a0 != b0) = true := by simpa using h0
    have d1 : (a0 == b0) = false := by simpa using h0
    have Hn := Lib.hid h0; clear h0
    go_enter Try.func39, Try.ntmps39
    go_wp2
    go_ret
    exact IsBB.no (fun h => Hn.out (by injection h)) (bal (bal (Below.refl _ _) _) _)

theorem infoBkt : (Try.prog.info? 65).map (fun i => (i.zero, i.size, i.bytes)) = some (some (.agg #[.int .i64 0, .int .i64 0, .int .i64 0, .int .i64 0, .int .i64 0, .int .i64 0, .int .i64 0]), 7, 56) := by kernel_rfl

def zBkt : GBkt := ⟨0, zAgg⟩

def zeroBkts (n : Nat) : Obj := .cells (madeCells #[.int .i64 0, .int .i64 0, .int .i64 0, .int .i64 0, .int .i64 0, .int .i64 0, .int .i64 0] (n * 7)) 65

theorem make_bkts (n : Nat) (hn : n ≤ 1048576) (W : World) : (Instr.makeSlice 30 (.int .i64 (n : Int)) (.int .i64 (n : Int))).run Try.prog W = .ok (.slice (some ⟨W.heap.size, 0, none⟩) n n) (W.alloc (zeroBkts n)) :=
  run_make_n (P := Try.prog) 30 65 _ 7 56 infoBkt Try.underlying30 n n (Nat.le_refl _) (by omega) (by omega) W

theorem zeroBkts_sl (n : Nat) (w : World) : BktsAt (w.alloc (zeroBkts n)) (w.heap.size + 1) (some ⟨w.heap.size, 0, none⟩) (List.replicate n zBkt) :=
  made_sl GBkt.vals zBkt 7 n 65 w _ rfl rfl

/-- a slice of buckets is answered, in new memory of its own -/
def NewBkts (xs : List GBkt) (w : World) (e : Ending) (w' : World) : Prop :=
  ∃ (A : Option Addr) (c : Nat), e = .returned (.slice A xs.length c) ∧ BktsAt w' w'.heap.size A xs ∧ Free w' A ∧ (∀ b, blk A = some b → w.heap.size ≤ b ∧ b < w'.heap.size) ∧ xs.length ≤ c ∧ Below w.heap.size w w'

set_option maxRecDepth 100000 in
theorem toBucketS_any (A : Option Addr) (c : Nat) (xs : List GBkt) (B : Nat) (w : World) (h : BktsAt w B A xs) (hB : B ≤ w.heap.size) (hl : xs.length ≤ 1048576) :
    Calls Try.prog 21 #[.slice A xs.length c] w (NewBkts xs w) := by
  have H := Lib.hid h; clear h
  have hmk := make_bkts xs.length hl
  go_enter Try.func21, Try.ntmps21
  go_wp2_with fail
  have hsl := zeroBkts_sl xs.length w
  have hfr : Free (w.alloc (zeroBkts xs.length)) (some ⟨w.heap.size, 0, none⟩) := free_alloc _ _ _ _
  have hbw : Below w.heap.size w (w.alloc (zeroBkts xs.length)) := bal (Below.refl _ _) _
  have hsz : w.heap.size < (w.alloc (zeroBkts xs.length)).heap.size := by simp
  generalize w.alloc (zeroBkts xs.length) = w0 at hsl hfr hbw hsz ⊢
  clear hmk
  have Hsl := Lib.hid hsl; clear hsl
  have Hfr := Lib.hid hfr; clear hfr
  go_loopw [4] (fun i wr => ∃ j : Nat, j ≤ xs.length ∧ i = .int .i64 j ∧ Hid (BktsAt wr (w.heap.size + 1) (some ⟨w.heap.size, 0, none⟩) (xs.take j ++ (List.replicate xs.length zBkt).drop j)) ∧ Hid (Free wr (some ⟨w.heap.size, 0, none⟩)) ∧ w.heap.size < wr.heap.size ∧ Below w.heap.size w wr) (fun i _ => xs.length - (intOf i).toNat)
  case atStart => exact ⟨0, by omega, rfl, Lib.hid (by simpa using Hsl.out), Hfr, hsz, hbw⟩
  case round =>
    clear Hsl Hfr hbw hsz
    obtain ⟨j, hj, rfl, Hr, Hf, hs, hb⟩ := hrel
    by_cases hlt : j < xs.length
    · obtain ⟨b, off, rfl, hbB, p0, p1, p2, p3, p4, p5, p6⟩ := BktsAt.bkt (Sl.below H.out hb hB) hlt
      have hjl : j < (xs.take j ++ (List.replicate xs.length zBkt).drop j).length := by simp; omega
      obtain ⟨g, o, e, hgB, q0, q1, q2, q3, q4, q5, q6⟩ := BktsAt.bkt Hr.out hjl
      injection e with e
      injection e with e1 e2
      subst e1 e2
      obtain ⟨v0, q0⟩ : ∃ v, wr.cell? ⟨w.heap.size, 0 + j * 7, none⟩ = some v := ⟨_, q0⟩
      obtain ⟨v1, q1⟩ : ∃ v, wr.cell? ⟨w.heap.size, 0 + j * 7 + 1, none⟩ = some v := ⟨_, q1⟩
      obtain ⟨v2, q2⟩ : ∃ v, wr.cell? ⟨w.heap.size, 0 + j * 7 + 2, none⟩ = some v := ⟨_, q2⟩
      obtain ⟨v3, q3⟩ : ∃ v, wr.cell? ⟨w.heap.size, 0 + j * 7 + 3, none⟩ = some v := ⟨_, q3⟩
      obtain ⟨v4, q4⟩ : ∃ v, wr.cell? ⟨w.heap.size, 0 + j * 7 + 4, none⟩ = some v := ⟨_, q4⟩
      obtain ⟨v5, q5⟩ : ∃ v, wr.cell? ⟨w.heap.size, 0 + j * 7 + 5, none⟩ = some v := ⟨_, q5⟩
      obtain ⟨v6, q6⟩ : ∃ v, wr.cell? ⟨w.heap.size, 0 + j * 7 + 6, none⟩ = some v := ⟨_, q6⟩
      have fz : ∀ i, wr.frozen? ⟨w.heap.size, i, none⟩ = false := Hf.out _ rfl
      rw [Nat.zero_add] at q0 q1 q2 q3 q4 q5 q6
      have Q0 := Lib.hid q0; clear q0
      have Q1 := Lib.hid q1; clear q1
      have Q2 := Lib.hid q2; clear q2
      have Q3 := Lib.hid q3; clear q3
      have Q4 := Lib.hid q4; clear q4
      have Q5 := Lib.hid q5; clear q5
      have Q6 := Lib.hid q6; clear q6
      have Fz := Lib.hid fz; clear fz
      go_wp2_with fail
      refine (toBucket_any xs[j] wr).mono ?_
      rintro e w1 ⟨rfl, hb1⟩
      have c0 : w1.cell? ⟨w.heap.size, j * 7, none⟩ = some v0 := (hb1.cell hs).trans Q0.out
      have f0 : w1.frozen? ⟨w.heap.size, j * 7, none⟩ = false := (hb1.frozen hs).trans (Fz.out _)
      have c1 : w1.cell? ⟨w.heap.size, j * 7 + 1, none⟩ = some v1 := (hb1.cell hs).trans Q1.out
      have f1 : w1.frozen? ⟨w.heap.size, j * 7 + 1, none⟩ = false := (hb1.frozen hs).trans (Fz.out _)
      have c2 : w1.cell? ⟨w.heap.size, j * 7 + 2, none⟩ = some v2 := (hb1.cell hs).trans Q2.out
      have f2 : w1.frozen? ⟨w.heap.size, j * 7 + 2, none⟩ = false := (hb1.frozen hs).trans (Fz.out _)
      have c3 : w1.cell? ⟨w.heap.size, j * 7 + 3, none⟩ = some v3 := (hb1.cell hs).trans Q3.out
      have f3 : w1.frozen? ⟨w.heap.size, j * 7 + 3, none⟩ = false := (hb1.frozen hs).trans (Fz.out _)
      have c4 : w1.cell? ⟨w.heap.size, j * 7 + 4, none⟩ = some v4 := (hb1.cell hs).trans Q4.out
      have f4 : w1.frozen? ⟨w.heap.size, j * 7 + 4, none⟩ = false := (hb1.frozen hs).trans (Fz.out _)
      have c5 : w1.cell? ⟨w.heap.size, j * 7 + 5, none⟩ = some v5 := (hb1.cell hs).trans Q5.out
      have f5 : w1.frozen? ⟨w.heap.size, j * 7 + 5, none⟩ = false := (hb1.frozen hs).trans (Fz.out _)
      have c6 : w1.cell? ⟨w.heap.size, j * 7 + 6, none⟩ = some v6 := (hb1.cell hs).trans Q6.out
      have f6 : w1.frozen? ⟨w.heap.size, j * 7 + 6, none⟩ = false := (hb1.frozen hs).trans (Fz.out _)
      have hn := Sl.puts (w1 := w1) Hr.out (fun x => rfl) hjl (fun i => hb1.cell hs) xs[j]
      rw [take_set xs _ j hlt (by simpa using hlt)] at hn
      have Hn := Lib.hid hn; clear hn
      have Hfn := Lib.hid (Free.puts (w1 := w1) (g := w.heap.size) (i := j * 7) xs[j].vals (fun i => (hb1.frozen hs).trans (Fz.out i)))
      have hsn : w.heap.size < (puts w1 w.heap.size (j * 7) xs[j].vals).heap.size := by rw [puts_size]; have := hb1.size; omega
      have Hsn := Lib.hid hsn; clear hsn
      have Hbn := Lib.hid (puts_below w.heap.size (Nat.le_refl _) xs[j].vals w1 (j * 7) (bnext hb hb1))
      clear p0 p1 p2 p3 p4 p5 p6
      go_wp2
      go_roundw
      case rel => exact ⟨j + 1, by omega, by go_num, Hn, Hfn, Hsn.out, Hbn.out⟩
      case measure => simp [intOf]; omega
    · obtain rfl : j = xs.length := by omega
      have hn : BktsAt wr (w.heap.size + 1) (some ⟨w.heap.size, 0, none⟩) xs := by simpa using Hr.out
      have Hn := Lib.hid hn; clear hn
      go_wp2
      go_ret
      exact ⟨_, _, rfl, Sl.more Hn.out hs, Hf.out, fun b e => by simp [blk] at e; subst e; exact ⟨Nat.le_refl _, hs⟩, Nat.le_refl _, hb⟩

set_option maxRecDepth 100000 in
theorem eqBucketS_any (A1 A2 : Option Addr) (c1 c2 : Nat) (xs ys : List GBkt) (B : Nat) (w : World) (h1 : BktsAt w B A1 xs) (h2 : BktsAt w B A2 ys) (hB : B ≤ w.heap.size) (hl : xs.length ≤ 4611686018427387904) (hl2 : ys.length ≤ 4611686018427387904) :
    Calls Try.prog 14 #[.slice A1 xs.length c1, .slice A2 ys.length c2] w (IsBB (xs = ys) w) := by
  by_cases hlen : xs.length = ys.length
  · have hd : ((xs.length : Int) != (ys.length : Int)) = false := by simp; omega
    have hd2 : ((xs.length : Int) == (ys.length : Int)) = true := by simp; omega
    have Hlen := Lib.hid hlen; clear hlen
    have H1 := Lib.hid h1; clear h1
    have H2 := Lib.hid h2; clear h2
    go_enter Try.func14, Try.ntmps14
    go_wp2_with fail
    go_loopw [5] (fun i wr => ∃ k : Nat, k ≤ xs.length ∧ i = .int .i64 k ∧ Hid (xs.take k = ys.take k) ∧ Below w.heap.size w wr) (fun i _ => xs.length - (intOf i).toNat)
    case atStart => exact ⟨0, by omega, rfl, Lib.hid (by simp), Below.refl _ _⟩
    case round =>
      obtain ⟨k, hk, rfl, H, hb⟩ := hrel
      by_cases hlt : k < xs.length
      · have hy : k < ys.length := by have := Hlen.out; omega
        obtain ⟨b1, o1, rfl, hb1, p0, p1, p2, p3, p4, p5, p6⟩ := BktsAt.bkt (Sl.below H1.out hb hB) hlt
        obtain ⟨b2, o2, rfl, hb2, q0, q1, q2, q3, q4, q5, q6⟩ := BktsAt.bkt (Sl.below H2.out hb hB) hy
        go_wp2_with fail
        go_still_tail 8, (by kernel_rfl)
        have hb' := hb.drew
        change wpList _ _ _ _ _ wr.drew
        generalize wr.drew = w2 at hb' ⊢
        clear p0 p1 p2 p3 p4 p5 p6 q0 q1 q2 q3 q4 q5 q6
        go_wp2_with fail
        refine (eqBucket_any xs[k] ys[k] w2).mono ?_
        rintro e w3 ⟨be, hbe, rfl, hb3⟩
        have hb4 : Below w.heap.size w w3 := hb'.trans (hb3.mono hb'.size)
        cases be
        · have hn : ¬ (xs = ys) := fun h => by
            have : xs[k] = ys[k] := by simp [h]
            have := hbe.2 this
            cases this
          have Hn := Lib.hid hn; clear hn hbe hb3
          go_wp2
          go_ret
          exact IsBB.no Hn.out hb4
        · have he : xs[k] = ys[k] := hbe.1 rfl
          have hn : xs.take (k + 1) = ys.take (k + 1) := by
            rw [List.take_succ_eq_append_getElem hlt, List.take_succ_eq_append_getElem hy, H.out, he]
          have Hn := Lib.hid hn; clear hn he hbe hb3
          go_wp2
          go_roundw
          case rel => exact ⟨k + 1, by omega, by go_num, Hn, hb4⟩
          case measure => simp [intOf]; omega
      · have hyes : xs = ys := by
          have h1 := H.out
          have h2 := Hlen.out
          rw [List.take_of_length_le (by omega), List.take_of_length_le (by omega)] at h1
          exact h1
        have Hy := Lib.hid hyes; clear hyes
        go_wp2
        go_ret
        exact IsBB.yes Hy.out hb
  · have hd : ((xs.length : Int) != (ys.length : Int)) = true := by simp; omega
    have hd2 : ((xs.length : Int) == (ys.length : Int)) = false := by simp; omega
    have hno : ¬ (xs = ys) := fun h => hlen (by rw [h])
    have Hno := Lib.hid hno; clear hno hlen h1 h2
    go_enter Try.func14, Try.ntmps14
    go_wp2
    go_ret
    exact IsBB.no Hno.out (Below.refl _ _)

theorem szBucketS_any (A : Option Addr) (c : Nat) (xs : List GBkt) (left : Int) (w : World) (hl : xs.length ≤ maxLen) (h0 : 0 ≤ left) (h1 : left ≤ 1048576) :
    Calls Try.prog 19 #[.slice A xs.length c, .int .i64 left] w fun e w' => ∃ u : Int, (0 ≤ u → (xs.length : Int) ≤ left ∧ u = left - xs.length) ∧ -1 ≤ u ∧ u ≤ left ∧ e = .returned (.int .i64 u) ∧ w = w' := by
  unfold maxLen at hl
  by_cases c1 : left - (xs.length : Int) < 0
  · have d1 : decide (left - (xs.length : Int) < 0) = true := by simpa using c1
    go_enter Try.func19, Try.ntmps19
    go_wp2
    go_ret
    exact ⟨-1, fun h => by omega, by omega, by omega, rfl, rfl⟩
  · have d1 : decide (left - (xs.length : Int) < 0) = false := by simpa using c1
    go_enter Try.func19, Try.ntmps19
    go_wp2
    go_ret
    exact ⟨_, fun h => ⟨by omega, rfl⟩, by omega, by omega, rfl, rfl⟩

end Go.Proofs.Ytkpaocejpjhkpaa
