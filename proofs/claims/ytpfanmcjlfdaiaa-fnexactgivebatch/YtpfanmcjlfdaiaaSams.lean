/-
  Words for slices of samples in memory, and contracts of the laws' own helpers on them (to, eq, sz).
-/
import Derived.Test.YtpfanmcjlfdaiaaAggLaw
namespace Go.Proofs.Ytpfanmcjlfdaiaa
open Go.ChangeShapes Go.WideShapes Go.ChangeAt Go.RowKit Go.Deep Go.Joins
set_option linter.unusedVariables false

/-- a sample as data -/
structure GSam where
  t : Int
  v : Int
deriving DecidableEq

def GSam.vals (s : GSam) : List Value := [.int .i64 s.t, .int .i64 s.v]

def GSam.fit (s : GSam) : Prop := I64 s.t ∧ I64 s.v

/-- a slice of samples -/
def SamsAt (w : World) (B : Nat) (A : Option Addr) (xs : List GSam) : Prop := Sl GSam.vals 2 w B A xs

theorem SamsAt.sam {w : World} {B : Nat} {A : Option Addr} {xs : List GSam} (h : SamsAt w B A xs) {k : Nat} (hk : k < xs.length) :
    ∃ b off, A = some ⟨b, off, none⟩ ∧ b < B ∧ w.cell? ⟨b, off + k * 2, none⟩ = some (.int .i64 xs[k].t) ∧ w.cell? ⟨b, off + k * 2 + 1, none⟩ = some (.int .i64 xs[k].v) := by
  obtain ⟨b, off, e, hb, hc⟩ := Sl.at_ h hk
  exact ⟨b, off, e, hb, hc 0 _ rfl, hc 1 _ rfl⟩

theorem toSample_any (s : GSam) (w : World) : Calls Try.prog 30 #[.agg #[.int .i64 s.t, .int .i64 s.v]] w fun e w' => e = .returned (.agg #[.int .i64 s.t, .int .i64 s.v]) ∧ Below w.heap.size w w' := by
  go_enter Try.func30, Try.ntmps30
  go_wp2
  refine bodyPost_ret (v := .agg #[.int .i64 s.t, .int .i64 s.v]) (by simp [results, Try.results30, go_sem]) rfl ⟨rfl, ?_⟩
  exact bal (bal (bal (Below.refl _ _) _) _) _

theorem eqSample_any (a b : GSam) (w : World) : Calls Try.prog 35 #[.agg #[.int .i64 a.t, .int .i64 a.v], .agg #[.int .i64 b.t, .int .i64 b.v]] w fun e w' => e = .returned (.bool (decide (a = b))) ∧ Below w.heap.size w w' := by
  obtain ⟨a0, a1⟩ := a
  obtain ⟨b0, b1⟩ := b
  dsimp only
  go_enter Try.func35, Try.ntmps35
  go_wp2
  all_goals go_ret
  all_goals refine ⟨?_, bal (bal (Below.refl _ _) _) _⟩
  all_goals simp_all

theorem infoSam : (Try.prog.info? 47).map (fun i => (i.zero, i.size, i.bytes)) = some (some (.agg #[.int .i64 0, .int .i64 0]), 2, 16) := by kernel_rfl

def zSam : GSam := ⟨0, 0⟩

def zeroSams (n : Nat) : Obj := .cells (madeCells #[.int .i64 0, .int .i64 0] (n * 2)) 47

theorem make_sams (n : Nat) (hn : n ≤ 1048576) (W : World) : (Instr.makeSlice 22 (.int .i64 (n : Int)) (.int .i64 (n : Int))).run Try.prog W = .ok (.slice (some ⟨W.heap.size, 0, none⟩) n n) (W.alloc (zeroSams n)) :=
  run_make_n (P := Try.prog) 22 47 _ 2 16 infoSam Try.underlying22 n n (Nat.le_refl _) (by omega) (by omega) W

theorem zeroSams_sl (n : Nat) (w : World) : SamsAt (w.alloc (zeroSams n)) (w.heap.size + 1) (some ⟨w.heap.size, 0, none⟩) (List.replicate n zSam) :=
  made_sl GSam.vals zSam 2 n 47 w _ rfl rfl

/-- a slice of samples is answered, in new memory of its own -/
def NewSams (xs : List GSam) (w : World) (e : Ending) (w' : World) : Prop :=
  ∃ (A : Option Addr) (c : Nat), e = .returned (.slice A xs.length c) ∧ SamsAt w' w'.heap.size A xs ∧ Free w' A ∧ (∀ b, blk A = some b → w.heap.size ≤ b ∧ b < w'.heap.size) ∧ xs.length ≤ c ∧ Below w.heap.size w w'

theorem SamsAt.store {w w1 : World} {B g k : Nat} {ys : List GSam} (h : SamsAt w B (some ⟨g, 0, none⟩) ys) (hk : k < ys.length) (ho : ∀ i, w1.cell? ⟨g, i, none⟩ = w.cell? ⟨g, i, none⟩) (o : GSam) :
    SamsAt ((w1.setCell ⟨g, k * 2, none⟩ (.int .i64 o.t)).setCell ⟨g, k * 2 + 1, none⟩ (.int .i64 o.v)) B (some ⟨g, 0, none⟩) (ys.set k o) := by
  obtain ⟨b, off, e, hgB, q0, q1⟩ := SamsAt.sam h hk
  injection e with e
  injection e with e1 e2
  subst e1 e2
  rw [← ho] at q0 q1
  rw [Nat.zero_add] at q0 q1
  refine Sl.set h (fun x => rfl) hk o ?_ ?_
  · intro j v hv
    rw [Nat.zero_add]
    match j, hv with
    | 0, hv =>
      simp [GSam.vals] at hv; subst hv
      rw [cset_ne _ _ _ _ _ (by omega)]; exact cset_eq _ _ _ _ q0
    | 1, hv =>
      simp [GSam.vals] at hv; subst hv
      exact cset_eq _ _ _ _ ((cset_ne _ _ _ _ _ (by omega)).trans q1)
    | j + 2, hv => simp [GSam.vals] at hv
  · intro i hi
    rw [cset_ne _ _ _ _ _ (by omega), cset_ne _ _ _ _ _ (by omega), ho]

set_option maxRecDepth 100000 in
theorem toSampleS_any (A : Option Addr) (c : Nat) (xs : List GSam) (B : Nat) (w : World) (h : SamsAt w B A xs) (hB : B ≤ w.heap.size) (hl : xs.length ≤ 1048576) :
    Calls Try.prog 18 #[.slice A xs.length c] w (NewSams xs w) := by
  have H := Lib.hid h; clear h
  have hmk := make_sams xs.length hl
  go_enter Try.func18, Try.ntmps18
  go_wp2_with fail
  have hsl := zeroSams_sl xs.length w
  have hfr : Free (w.alloc (zeroSams xs.length)) (some ⟨w.heap.size, 0, none⟩) := free_alloc _ _ _ _
  have hbw : Below w.heap.size w (w.alloc (zeroSams xs.length)) := bal (Below.refl _ _) _
  have hsz : w.heap.size < (w.alloc (zeroSams xs.length)).heap.size := by simp
  generalize w.alloc (zeroSams xs.length) = w0 at hsl hfr hbw hsz ⊢
  clear hmk
  have Hsl := Lib.hid hsl; clear hsl
  have Hfr := Lib.hid hfr; clear hfr
  go_loopw [4] (fun i wr => ∃ j : Nat, j ≤ xs.length ∧ i = .int .i64 j ∧ Hid (SamsAt wr (w.heap.size + 1) (some ⟨w.heap.size, 0, none⟩) (xs.take j ++ (List.replicate xs.length zSam).drop j)) ∧ Hid (Free wr (some ⟨w.heap.size, 0, none⟩)) ∧ w.heap.size < wr.heap.size ∧ Below w.heap.size w wr) (fun i _ => xs.length - (intOf i).toNat)
  case atStart => exact ⟨0, by omega, rfl, Lib.hid (by simpa using Hsl.out), Hfr, hsz, hbw⟩
  case round =>
    clear Hsl Hfr hbw hsz
    obtain ⟨j, hj, rfl, Hr, Hf, hs, hb⟩ := hrel
    by_cases hlt : j < xs.length
    · obtain ⟨b, off, rfl, hbB, p0, p1⟩ := SamsAt.sam (Sl.below H.out hb hB) hlt
      have hjl : j < (xs.take j ++ (List.replicate xs.length zSam).drop j).length := by simp; omega
      obtain ⟨g, o, e, hgB, q0, q1⟩ := SamsAt.sam Hr.out hjl
      injection e with e
      injection e with e1 e2
      subst e1 e2
      obtain ⟨v0, q0⟩ : ∃ v, wr.cell? ⟨w.heap.size, 0 + j * 2, none⟩ = some v := ⟨_, q0⟩
      obtain ⟨v1, q1⟩ : ∃ v, wr.cell? ⟨w.heap.size, 0 + j * 2 + 1, none⟩ = some v := ⟨_, q1⟩
      have fz : ∀ i, wr.frozen? ⟨w.heap.size, i, none⟩ = false := Hf.out _ rfl
      rw [Nat.zero_add] at q0 q1
      have Q0 := Lib.hid q0; clear q0
      have Q1 := Lib.hid q1; clear q1
      have Fz := Lib.hid fz; clear fz
      go_wp2_with fail
      refine (toSample_any xs[j] wr).mono ?_
      rintro e w1 ⟨rfl, hb1⟩
      have c0 : w1.cell? ⟨w.heap.size, j * 2, none⟩ = some v0 := (hb1.cell hs).trans Q0.out
      have c1 : w1.cell? ⟨w.heap.size, j * 2 + 1, none⟩ = some v1 := (hb1.cell hs).trans Q1.out
      have f0 : w1.frozen? ⟨w.heap.size, j * 2, none⟩ = false := (hb1.frozen hs).trans (Fz.out _)
      have f1 : w1.frozen? ⟨w.heap.size, j * 2 + 1, none⟩ = false := (hb1.frozen hs).trans (Fz.out _)
      have hn := SamsAt.store (w1 := w1) Hr.out hjl (fun i => hb1.cell hs) xs[j]
      rw [take_set xs _ j hlt (by simpa using hlt)] at hn
      have Hn := Lib.hid hn; clear hn
      have hfn : Free ((w1.setCell ⟨w.heap.size, j * 2, none⟩ (.int .i64 xs[j].t)).setCell ⟨w.heap.size, j * 2 + 1, none⟩ (.int .i64 xs[j].v)) (some ⟨w.heap.size, 0, none⟩) := fun b e i => by
        simp [blk] at e; subst e
        rw [frozen_setCell, frozen_setCell]; exact (hb1.frozen hs).trans (Fz.out i)
      have Hfn := Lib.hid hfn; clear hfn
      have hsn : w.heap.size < w1.heap.size := by have := hb1.size; omega
      have hbn : Below w.heap.size w ((w1.setCell ⟨w.heap.size, j * 2, none⟩ (.int .i64 xs[j].t)).setCell ⟨w.heap.size, j * 2 + 1, none⟩ (.int .i64 xs[j].v)) :=
        bset (bset (bnext hb hb1) (Nat.le_refl _) _) (Nat.le_refl _) _
      have Hbn := Lib.hid hbn; clear hbn
      go_wp2
      go_roundw
      case rel => exact ⟨j + 1, by omega, by go_num, Hn, Hfn, by simpa [World.setCell] using hsn, Hbn.out⟩
      case measure => simp [intOf]; omega
    · obtain rfl : j = xs.length := by omega
      have hn : SamsAt wr (w.heap.size + 1) (some ⟨w.heap.size, 0, none⟩) xs := by simpa using Hr.out
      have Hn := Lib.hid hn; clear hn
      go_wp2
      go_ret
      exact ⟨_, _, rfl, Sl.more Hn.out hs, Hf.out, fun b e => by simp [blk] at e; subst e; exact ⟨Nat.le_refl _, hs⟩, Nat.le_refl _, hb⟩

set_option maxRecDepth 100000 in
theorem eqSampleS_any (A1 A2 : Option Addr) (c1 c2 : Nat) (xs ys : List GSam) (B : Nat) (w : World) (h1 : SamsAt w B A1 xs) (h2 : SamsAt w B A2 ys) (hB : B ≤ w.heap.size) (hl : xs.length ≤ 4611686018427387904) (hl2 : ys.length ≤ 4611686018427387904) :
    Calls Try.prog 20 #[.slice A1 xs.length c1, .slice A2 ys.length c2] w (IsBB (xs = ys) w) := by
  by_cases hlen : xs.length = ys.length
  · have hd : ((xs.length : Int) != (ys.length : Int)) = false := by simp; omega
    have hd2 : ((xs.length : Int) == (ys.length : Int)) = true := by simp; omega
    have Hlen := Lib.hid hlen; clear hlen
    have H1 := Lib.hid h1; clear h1
    have H2 := Lib.hid h2; clear h2
    go_enter Try.func20, Try.ntmps20
    go_wp2_with fail
    go_loopw [5] (fun i wr => ∃ k : Nat, k ≤ xs.length ∧ i = .int .i64 k ∧ Hid (xs.take k = ys.take k) ∧ Below w.heap.size w wr) (fun i _ => xs.length - (intOf i).toNat)
    case atStart => exact ⟨0, by omega, rfl, Lib.hid (by simp), Below.refl _ _⟩
    case round =>
      obtain ⟨k, hk, rfl, H, hb⟩ := hrel
      by_cases hlt : k < xs.length
      · have hy : k < ys.length := by have := Hlen.out; omega
        obtain ⟨b1, o1, rfl, hb1, p0, p1⟩ := SamsAt.sam (Sl.below H1.out hb hB) hlt
        obtain ⟨b2, o2, rfl, hb2, q0, q1⟩ := SamsAt.sam (Sl.below H2.out hb hB) hy
        go_wp2_with fail
        go_still_tail 8, (by kernel_rfl)
        have hb' := hb.drew
        change wpList _ _ _ _ _ wr.drew
        generalize wr.drew = w2 at hb' ⊢
        clear p0 p1 q0 q1
        go_wp2_with fail
        refine (eqSample_any xs[k] ys[k] w2).mono ?_
        rintro e w3 ⟨rfl, hb3⟩
        have hb4 : Below w.heap.size w w3 := hb'.trans (hb3.mono hb'.size)
        by_cases he : xs[k] = ys[k]
        · have hn : xs.take (k + 1) = ys.take (k + 1) := by
            rw [List.take_succ_eq_append_getElem hlt, List.take_succ_eq_append_getElem hy, H.out, he]
          have Hn := Lib.hid hn; clear hn
          have hd4 : decide (xs[k] = ys[k]) = true := by simpa using he
          clear he
          go_wp2
          go_roundw
          case rel => exact ⟨k + 1, by omega, by go_num, Hn, hb4⟩
          case measure => simp [intOf]; omega
        · have hn : ¬ (xs = ys) := fun h => he (by simp [h])
          have Hn := Lib.hid hn; clear hn
          have hd4 : decide (xs[k] = ys[k]) = false := by simpa using he
          clear he
          go_wp2
          go_ret
          exact ⟨false, by simp [Hn.out], rfl, hb4⟩
      · have hyes : xs = ys := by
          have h1 := H.out
          have h2 := Hlen.out
          rw [List.take_of_length_le (by omega), List.take_of_length_le (by omega)] at h1
          exact h1
        have Hy := Lib.hid hyes; clear hyes
        go_wp2
        go_ret
        exact ⟨true, by simp [Hy.out], rfl, hb⟩
  · have hd : ((xs.length : Int) != (ys.length : Int)) = true := by simp; omega
    have hd2 : ((xs.length : Int) == (ys.length : Int)) = false := by simp; omega
    have hno : ¬ (xs = ys) := fun h => hlen (by rw [h])
    have Hno := Lib.hid hno; clear hno hlen h1 h2
    go_enter Try.func20, Try.ntmps20
    go_wp2
    go_ret
    exact ⟨false, by simp [Hno.out], rfl, Below.refl _ _⟩

theorem szSampleS_any (A : Option Addr) (c : Nat) (xs : List GSam) (left : Int) (w : World) (hl : xs.length ≤ maxLen) (h0 : 0 ≤ left) (h1 : left ≤ 1048576) :
    Calls Try.prog 16 #[.slice A xs.length c, .int .i64 left] w fun e w' => ∃ u : Int, (0 ≤ u → (xs.length : Int) ≤ left ∧ u = left - xs.length) ∧ -1 ≤ u ∧ u ≤ left ∧ e = .returned (.int .i64 u) ∧ w = w' := by
  unfold maxLen at hl
  by_cases c1 : left - (xs.length : Int) < 0
  · have d1 : decide (left - (xs.length : Int) < 0) = true := by simpa using c1
    go_enter Try.func16, Try.ntmps16
    go_wp2
    go_ret
    exact ⟨-1, fun h => by omega, by omega, by omega, rfl, rfl⟩
  · have d1 : decide (left - (xs.length : Int) < 0) = false := by simpa using c1
    go_enter Try.func16, Try.ntmps16
    go_wp2
    go_ret
    exact ⟨_, fun h => ⟨by omega, rfl⟩, by omega, by omega, rfl, rfl⟩

section

variable {H : Type} {enc : TypeId × Value → H} {base : Nat} {spare : Nat → Bool} {held : Bool}

theorem open_sam' {P : Program} {w : World} {t : TypeId} {f0 f1 : Field} {n : Nat} {cs : List Value} {y : DataW H × List MemPlace} (ht : P.underlying t = some (.struct #[f0, f1])) (hone : oneCellFields P #[f0, f1] = true)
    (g0 : P.underlying f0.type = some (.int .i64)) (g1 : P.underlying f1.type = some (.int .i64)) (hl : cs.length = 2) (h : DataW.trod enc P w base spare held n t cs = some y) : ∃ o : GSam, cs = o.vals ∧ o.fit := by
  obtain ⟨y0, y1, m, _, _, h0, h1⟩ := trod_struct2 ht h
  obtain ⟨o0, k0⟩ := hone_of hone 0 f0 rfl
  obtain ⟨o1, k1⟩ := hone_of hone 1 f1 rfl
  match cs, hl with
  | [a, b], _ =>
    rw [o0, k0] at h0
    rw [o1, k1] at h1
    obtain ⟨z0, e0, _, l0⟩ := DataW.trod_int g0 h0
    obtain ⟨z1, e1, _, l1⟩ := DataW.trod_int g1 h1
    simp at e0 e1
    subst e0 e1
    exact ⟨⟨z0, z1⟩, rfl, i64_of_wf l0, i64_of_wf l1⟩

theorem cellsLSam : Try.prog.cellsOf 51 = 2 := by kernel_rfl

theorem open_sams' {P : Program} {t e : TypeId} {f0 f1 : Field} {W : World} {r : Reach} {b0 : Nat} {v : Value} {d : DataW H} {p : List MemPlace} (hs : P.underlying t = some (.slice e)) (he : P.underlying e = some (.struct #[f0, f1])) (hone : oneCellFields P #[f0, f1] = true) (hce : P.cellsOf e = 2)
    (g0 : P.underlying f0.type = some (.int .i64)) (g1 : P.underlying f1.type = some (.int .i64)) (hv : Value.okWide P W r b0 t v) (h : DataW.Trod enc P W base spare held t v d p) :
    ∃ (A : Option Addr) (c : Nat) (xs : List GSam), v = .slice A xs.length c ∧ SamsAt W W.heap.size A xs ∧ (∀ o ∈ xs, o.fit) ∧ xs.length ≤ maxLen := by
  obtain ⟨a0, len, cap, rfl⟩ := okWide_slice hs hv
  obtain ⟨fuel, hf⟩ := h
  obtain ⟨A, c, xs, e1, e2, e3, e4⟩ := open_sl GSam.vals 2 GSam.fit hs hce (by omega) (fun n cs y hc hy => open_sam' he hone g0 g1 hc hy) (by simpa [Value.cells] using hf)
  exact ⟨A, c, xs, e1, e2, e3, e4⟩

set_option maxRecDepth 100000 in
theorem open_lsams {W : World} {r : Reach} {b0 : Nat} {v : Value} {d : DataW H} {p : List MemPlace} (hv : Value.okWide Try.prog W r b0 30 v) (h : DataW.Trod enc Try.prog W base spare held 30 v d p) :
    ∃ (A : Option Addr) (c : Nat) (xs : List GSam), v = .slice A xs.length c ∧ SamsAt W W.heap.size A xs ∧ (∀ o ∈ xs, o.fit) ∧ xs.length ≤ maxLen :=
  open_sams' Try.underlying30 Try.underlying51 (by kernel_rfl) cellsLSam Try.underlying3 Try.underlying3 hv h

end

end Go.Proofs.Ytpfanmcjlfdaiaa
