/-
  Contracts of impl.bucketText, of listText over buckets, and of impl.BucketsText. Conditions: the library's table of powers of ten is as its text lays it.
-/
import Derived.Test.YtjmfffmjfbpgjaaGreatDoorSamTxt
import Derived.Test.YtjmfffmjfbpgjaaGreatDoorBktImpl
namespace Go.Proofs.YtjmfffmjfbpgjaaGreatDoor
open Go.ChangeShapes Go.WideShapes Go.ChangeAt Go.RowKit
set_option linter.unusedVariables false
set_option linter.unusedSimpArgs false

/-- the text of an aggregate -/
def aggT (a : GAgg) : ByteArray := joinT (a.nums.map numT) comma

/-- the text of a bucket -/
def bktT (s : GBkt) : ByteArray := numT s.beg ++ ⟨#[58]⟩ ++ aggT s.agg

def BktC (s : GBkt) : Prop := s.fit ∧ AggP s.agg

theorem aggT_size {a : GAgg} (h : a.fit) : (aggT a).size ≤ 132 := by
  have := joinT_size comma 21 (a.nums.map numT) (fun x hx => by
    obtain ⟨n, hn, rfl⟩ := List.mem_map.1 hx
    exact numT_le (fit_nums h n hn).1 (fit_nums h n hn).2)
  rw [List.length_map, comma_size] at this
  have e : a.nums.length = 6 := rfl
  rw [e] at this
  exact this

theorem bktT_size {s : GBkt} (h : BktC s) : (bktT s).size ≤ 154 := by
  unfold bktT
  rw [ByteArray.size_append, ByteArray.size_append]
  have h1 := numT_le h.1.1.1 h.1.1.2
  have h2 := aggT_size h.1.2
  have e1 : (⟨#[58]⟩ : ByteArray).size = 1 := rfl
  omega

theorem bktC_of {xs : List GBkt} (hp : BktP xs) (hf : ∀ x ∈ xs, GBkt.fit x) : ∀ x ∈ xs, BktC x := by
  intro x hx
  obtain ⟨j, hj, rfl⟩ := List.mem_iff_getElem.1 hx
  exact ⟨hf _ hx, (hp.2 j hj hj).2.1⟩

theorem aggTextOK_any (a : GAgg) (ha : a.fit) (hp : AggP a) (w : World) (ht : Pow w) : Calls Tryz.prog 122 #[.agg #[.int .i64 a.cnt, .int .i64 a.sum, .int .i64 a.mn, .int .i64 a.mx, .int .i64 a.fst, .int .i64 a.lst]] w fun e w' => e = .returned (.tuple #[.string (aggT a), .int .i64 0]) ∧ Below w.heap.size w w' :=
  (aggText_any a ha w ht).mono fun e w' ⟨s, cd, he, ht, hb⟩ => by
    rcases ht with ⟨_, rfl, rfl⟩ | ⟨h, _, _⟩
    · exact ⟨he, hb⟩
    · exact absurd hp h

set_option maxRecDepth 100000 in
theorem bucketText_any (s : GBkt) (hf : BktC s) (w : World) (ht : Pow w) : Calls Tryz.prog 55 #[.agg #[.int .i64 s.beg, .int .i64 s.agg.cnt, .int .i64 s.agg.sum, .int .i64 s.agg.mn, .int .i64 s.agg.mx, .int .i64 s.agg.fst, .int .i64 s.agg.lst]] w fun e w' => e = .returned (.string (bktT s)) ∧ Below w.heap.size w w' := by
  have Hf := Lib.hid hf
  have z1 := numT_le hf.1.1.1 hf.1.1.2
  have z2 := aggT_size hf.1.2
  have z3 : ¬ 9223372036854775807 < (numT s.beg).size + 1 := by omega
  have z4 : ¬ 9223372036854775807 < (numT s.beg).size + 1 + (aggT s.agg).size := by omega
  have E := Lib.hid (show bktT s = numT s.beg ++ ⟨#[58]⟩ ++ aggT s.agg from rfl)
  have Ht := Lib.hid ht
  clear hf z1 z2 ht
  go_enter Tryz.func55, Tryz.ntmps55
  go_wp2_with fail
  have b0 : Below w.heap.size w (w.alloc (.cells #[.int .i64 s.beg, .int .i64 s.agg.cnt, .int .i64 s.agg.sum, .int .i64 s.agg.mn, .int .i64 s.agg.mx, .int .i64 s.agg.fst, .int .i64 s.agg.lst] 101)) := bal (Below.refl _ _) _
  refine (aggTextOK_any s.agg Hf.out.1.2 Hf.out.2 (w.alloc (.cells #[.int .i64 s.beg, .int .i64 s.agg.cnt, .int .i64 s.agg.sum, .int .i64 s.agg.mn, .int .i64 s.agg.mx, .int .i64 s.agg.fst, .int .i64 s.agg.lst] 101)) (Ht.out.below b0 (Nat.le_refl _))).mono ?_
  rintro e w1 ⟨rfl, hb1⟩
  have b1 : Below w.heap.size w w1 := bnext b0 hb1
  have q0 : w1.cell? ⟨w.heap.size, 0, none⟩ = some (.int .i64 s.beg) := (hb1.cell (by simp)).trans (by simp)
  clear hb1 b0
  go_wp2_with fail
  refine (itoa_any s.beg w1 Hf.out.1.1.1 Hf.out.1.1.2 (Ht.out.below b1 (Nat.le_refl _))).mono ?_
  rintro e w2 ⟨rfl, hb2⟩
  clear q0
  generalize aggT s.agg = Y at *
  generalize numT s.beg = X at *
  go_wp2
  go_ret
  exact ⟨by rw [E.out]; rfl, bnext b1 hb2⟩

set_option maxRecDepth 100000 in
theorem listBkt_any (A : Option Addr) (c : Nat) (xs : List GBkt) (B : Nat) (w : World) (h : BktsAt w B A xs) (hB : B ≤ w.heap.size) (hl : xs.length ≤ 1000) (hf : ∀ x ∈ xs, BktC x) (ht : Pow w) :
    Calls Tryz.prog 54 #[.slice A xs.length c, .func (.func 55) #[] #[]] w fun e w' => e = .returned (.string (joinT (xs.map bktT) blank)) ∧ Below w.heap.size w w' := by
  have H := Lib.hid h; clear h
  have Ht := Lib.hid ht; clear ht
  have Hf := Lib.hid hf; clear hf
  have hmk := make_txts xs.length (by omega)
  go_enter Tryz.func54, Tryz.ntmps54
  go_wp2_with fail
  have hsl := zeroTxts_sl xs.length w
  have hfr : Free (w.alloc (zeroTxts xs.length)) (some ⟨w.heap.size, 0, none⟩) := free_alloc _ _ _ _
  have hbw : Below w.heap.size w (w.alloc (zeroTxts xs.length)) := bal (Below.refl _ _) _
  have hsz : w.heap.size < (w.alloc (zeroTxts xs.length)).heap.size := by simp
  generalize w.alloc (zeroTxts xs.length) = w0 at hsl hfr hbw hsz ⊢
  clear hmk
  have Hsl := Lib.hid hsl; clear hsl
  have Hfr := Lib.hid hfr; clear hfr
  go_loopw [13] (fun i wr => ∃ j : Nat, j ≤ xs.length ∧ i = .int .i64 j ∧ Hid (TxtAt wr (w.heap.size + 1) (some ⟨w.heap.size, 0, none⟩) ((xs.map bktT).take j ++ (List.replicate xs.length ByteArray.empty).drop j)) ∧ Hid (Free wr (some ⟨w.heap.size, 0, none⟩)) ∧ w.heap.size < wr.heap.size ∧ Below w.heap.size w wr) (fun i _ => xs.length - (intOf i).toNat)
  case atStart => exact ⟨0, by omega, rfl, Lib.hid (by simpa using Hsl.out), Hfr, hsz, hbw⟩
  case round =>
    clear Hsl Hfr hbw hsz
    obtain ⟨j, hj, rfl, Hr, Hf2, hs, hb1⟩ := hrel
    by_cases hlt : j < xs.length
    · obtain ⟨b, off, rfl, hbB, p0, p1, p2, p3, p4, p5, p6⟩ := BktsAt.bkt (Sl.below H.out hb1 hB) hlt
      have hjl : j < ((xs.map bktT).take j ++ (List.replicate xs.length ByteArray.empty).drop j).length := by simp; omega
      obtain ⟨g, o2, e, hgB, q0⟩ := TxtAt.at_ Hr.out hjl
      injection e with e
      injection e with e1 e2
      subst e1 e2
      obtain ⟨v0, q0⟩ : ∃ v, wr.cell? ⟨w.heap.size, 0 + j, none⟩ = some v := ⟨_, q0⟩
      rw [Nat.zero_add] at q0
      have Q0 := Lib.hid q0; clear q0
      have fz : ∀ i, wr.frozen? ⟨w.heap.size, i, none⟩ = false := Hf2.out _ rfl
      have Fz := Lib.hid fz; clear fz
      have HI := Lib.hid (Hf.out _ (List.getElem_mem hlt))
      go_wp2_with fail
      have bA : Below wr.heap.size wr (wr.alloc (.cells #[.int .i64 xs[j].beg, .int .i64 xs[j].agg.cnt, .int .i64 xs[j].agg.sum, .int .i64 xs[j].agg.mn, .int .i64 xs[j].agg.mx, .int .i64 xs[j].agg.fst, .int .i64 xs[j].agg.lst] 101)) := bal (Below.refl _ _) _
      refine (bucketText_any xs[j] HI.out (wr.alloc (.cells #[.int .i64 xs[j].beg, .int .i64 xs[j].agg.cnt, .int .i64 xs[j].agg.sum, .int .i64 xs[j].agg.mn, .int .i64 xs[j].agg.mx, .int .i64 xs[j].agg.fst, .int .i64 xs[j].agg.lst] 101)) (Ht.out.below (bnext hb1 bA) (Nat.le_refl _))).mono ?_
      rintro e w1 ⟨rfl, hb2'⟩
      have hb2 : Below wr.heap.size wr w1 := bnext bA hb2'
      have c0 : w1.cell? ⟨w.heap.size, j, none⟩ = some v0 := (hb2.cell hs).trans Q0.out
      have f0 : w1.frozen? ⟨w.heap.size, j, none⟩ = false := (hb2.frozen hs).trans (Fz.out _)
      have hn := Sl.puts (w1 := w1) Hr.out (fun x => rfl) hjl (fun i => hb2.cell hs) (bktT xs[j])
      have et : bktT xs[j] = (xs.map bktT)[j]'(by simpa using hlt) := by simp
      rw [et, take_set (xs.map bktT) _ j (by simpa using hlt) (by simpa using hlt), ← et, Nat.mul_one] at hn
      have Hn := Lib.hid hn; clear hn et
      have Hfn := Lib.hid (Free.puts (w1 := w1) (g := w.heap.size) (i := j) (txV (bktT xs[j])) (fun i => (hb2.frozen hs).trans (Fz.out i)))
      have hsn : w.heap.size < (puts w1 w.heap.size j (txV (bktT xs[j]))).heap.size := by rw [puts_size]; have := hb2.size; omega
      have Hsn := Lib.hid hsn; clear hsn
      have Hbn := Lib.hid (puts_below w.heap.size (Nat.le_refl _) (txV (bktT xs[j])) w1 j (bnext hb1 hb2))
      clear p0 p1 p2 p3 p4 p5 p6 hb2' bA
      generalize bktT xs[j] = T at *
      go_wp2
      go_roundw
      case rel => exact ⟨j + 1, by omega, by go_num, Hn, Hfn, Hsn.out, Hbn.out⟩
      case measure => simp [intOf]; omega
    · obtain rfl : j = xs.length := by omega
      have hn : TxtAt wr (w.heap.size + 1) (some ⟨w.heap.size, 0, none⟩) (xs.map bktT) := by
        have := Hr.out
        rw [List.take_of_length_le (by simp), List.drop_of_length_le (by simp), List.append_nil] at this
        exact this
      have hz : (joinT (xs.map bktT) blank).size ≤ 140737488355328 := by
        have := joinT_size blank 1000 (xs.map bktT) (fun x hx => by
          obtain ⟨n, hn, rfl⟩ := List.mem_map.1 hx
          exact Nat.le_trans (bktT_size (Hf.out n hn)) (by omega))
        rw [List.length_map, blank_size] at this
        omega
      have hjn := joinS_any w.heap.size 0 xs.length (xs.map bktT) blank _ wr hn hs (by simp; omega) (by simp) hz
      rw [List.length_map] at hjn
      obtain ⟨J, hJ⟩ : ∃ J, J = joinT (xs.map bktT) blank := ⟨_, rfl⟩
      rw [← hJ] at hjn
      have HJ := Lib.hid hJ; clear hJ
      have Hj := Lib.hid hjn; clear hjn hn hz
      go_wp2_with fail
      refine Hj.out.mono ?_
      rintro e w1 ⟨rfl, hb2⟩
      go_wp2
      go_ret
      exact ⟨by rw [← HJ.out]; rfl, bnext hb1 hb2⟩

/-- what BucketsText answers -/
def BktTextOf (xs : List GBkt) (s : ByteArray) (cd : Int) : Prop :=
  (¬ xs.length ≤ 4096 ∧ s = ⟨#[]⟩ ∧ cd = 2) ∨ (xs.length ≤ 4096 ∧ ¬ BktP xs ∧ s = ⟨#[]⟩ ∧ cd = 1) ∨ (BktP xs ∧ s = joinT (xs.map bktT) blank ∧ cd = 0)

theorem bktT_one {xs : List GBkt} {s s' : ByteArray} {cd cd' : Int} (h : BktTextOf xs s cd) (h' : BktTextOf xs s' cd') : s = s' ∧ cd = cd' := by
  have k : BktP xs → xs.length ≤ 4096 := fun h => by have := h.1; omega
  rcases h with ⟨h1, rfl, rfl⟩ | ⟨h1, h2, rfl, rfl⟩ | ⟨h1, rfl, rfl⟩ <;> rcases h' with ⟨g1, rfl, rfl⟩ | ⟨g1, g2, rfl, rfl⟩ | ⟨g1, rfl, rfl⟩ <;> first | exact ⟨rfl, rfl⟩ | (exfalso; first | exact h1 (k g1) | exact g1 (k h1) | exact h1 g1 | exact h2 g1 | exact g2 h1 | exact g1 h1)

set_option maxRecDepth 100000 in
theorem bucketsText_any (A : Option Addr) (c : Nat) (xs : List GBkt) (B : Nat) (w : World) (h : BktsAt w B A xs) (hB : B ≤ w.heap.size) (hl : xs.length ≤ 1048576) (hf : ∀ x ∈ xs, GBkt.fit x) (ht : Pow w) :
    Calls Tryz.prog 14 #[.slice A xs.length c] w fun e w' => ∃ s cd, e = .returned (.tuple #[.string s, .int .i64 cd]) ∧ BktTextOf xs s cd ∧ Below w.heap.size w w' := by
  have H := Lib.hid h; clear h
  have Hf := Lib.hid hf; clear hf
  have Ht := Lib.hid ht; clear ht
  by_cases h1 : xs.length ≤ 4096
  · have d1 : decide (4096 < (xs.length : Int)) = false := by simp; omega
    go_enter Tryz.func14, Tryz.ntmps14
    go_wp2_with fail
    refine (bucketsOK_any A c xs B w H.out hB hl).mono ?_
    rintro e w1 ⟨b, hb, rfl, hb1⟩
    cases b
    · have Hn := Lib.hid (show ¬ BktP xs from fun h => by have := hb.2 h; cases this)
      clear hb
      go_wp2
      exact bodyPost_ret (v := .tuple #[.string ⟨#[]⟩, .int .i64 1]) (by simp [results, Tryz.results14, go_sem]) rfl ⟨⟨#[]⟩, 1, rfl, Or.inr (Or.inl ⟨h1, Hn.out, rfl, rfl⟩), hb1⟩
    have Hp := Lib.hid (hb.1 rfl); clear hb
    have h8 := Hp.out.1
    go_wp2_with fail
    refine (listBkt_any A c xs B w1 (Sl.below H.out hb1 hB) (Nat.le_trans hB hb1.size) (by omega) (bktC_of Hp.out Hf.out) (Ht.out.below hb1 (Nat.le_refl _))).mono ?_
    rintro e w2 ⟨rfl, hb2⟩
    obtain ⟨J, hJ⟩ : ∃ J, J = joinT (xs.map bktT) blank := ⟨_, rfl⟩
    rw [← hJ]
    have HJ := Lib.hid hJ; clear hJ
    go_wp2
    exact bodyPost_ret (v := .tuple #[.string J, .int .i64 0]) (by simp [results, Tryz.results14, go_sem]) rfl ⟨J, 0, rfl, Or.inr (Or.inr ⟨Hp.out, HJ.out, rfl⟩), bnext hb1 hb2⟩
  · have d1 : decide (4096 < (xs.length : Int)) = true := by simp; omega
    go_enter Tryz.func14, Tryz.ntmps14
    go_wp2
    exact bodyPost_ret (v := .tuple #[.string ⟨#[]⟩, .int .i64 2]) (by simp [results, Tryz.results14, go_sem]) rfl ⟨⟨#[]⟩, 2, rfl, Or.inl ⟨h1, rfl, rfl⟩, Below.refl _ _⟩

end Go.Proofs.YtjmfffmjfbpgjaaGreatDoor
