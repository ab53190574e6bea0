/-
  Words for slices of Entrys in memory, and contracts of the laws' own helpers on them (eq, sz, to).
-/
import Derived.Test.YtpackpocnonpiaaDoorConv
import Derived.Test.YtpackpocnonpiaaDoorPuts
import Derived.Test.YtpackpocnonpiaaDoorAggLaw
import Derived.Laws.StructEq
namespace Go.Proofs.YtpackpocnonpiaaDoor
open Go.ChangeShapes Go.WideShapes Go.ChangeAt Go.RowKit Go.Deep Go.Joins
set_option linter.unusedVariables false
set_option linter.unusedSimpArgs false

structure GEnt where
  tier : Int
  beg : Int
  fin : Int
  key : ByteArray
deriving DecidableEq

def GEnt.vals (o : GEnt) : List Value := [.int .i64 o.tier, .int .i64 o.beg, .int .i64 o.fin, .string o.key]

def GEnt.fit (o : GEnt) : Prop := I64 o.tier ∧ I64 o.beg ∧ I64 o.fin ∧ o.key.size ≤ maxLen

def GEnt.small (o : GEnt) : Prop := o.key.size ≤ 1048576

def zEnt : GEnt := ⟨0, 0, 0, ⟨#[]⟩⟩

/-- a slice of them -/
def EntsAt (w : World) (B : Nat) (A : Option Addr) (xs : List GEnt) : Prop := Sl GEnt.vals 4 w B A xs

theorem EntsAt.one {w : World} {B : Nat} {A : Option Addr} {xs : List GEnt} (h : EntsAt w B A xs) {k : Nat} (hk : k < xs.length) :
    ∃ b off, A = some ⟨b, off, none⟩ ∧ b < B ∧ w.cell? ⟨b, off + k * 4, none⟩ = some (.int .i64 xs[k].tier) ∧ w.cell? ⟨b, off + k * 4 + 1, none⟩ = some (.int .i64 xs[k].beg) ∧ w.cell? ⟨b, off + k * 4 + 2, none⟩ = some (.int .i64 xs[k].fin) ∧ w.cell? ⟨b, off + k * 4 + 3, none⟩ = some (.string xs[k].key) := by
  obtain ⟨b, off, e, hb, hc⟩ := Sl.at_ h hk
  exact ⟨b, off, e, hb, hc 0 _ rfl, hc 1 _ rfl, hc 2 _ rfl, hc 3 _ rfl⟩

theorem len_Ent (o : GEnt) : o.vals.length = 4 := rfl

/-- which of two's fields is the first to differ, in the forms that a walk asks -/
theorem ent_cases (o p : GEnt) : (o = p) ∨ (o ≠ p ∧ (o.tier == p.tier) = false) ∨ (o ≠ p ∧ (o.tier == p.tier) = true ∧ (o.beg == p.beg) = false) ∨ (o ≠ p ∧ (o.tier == p.tier) = true ∧ (o.beg == p.beg) = true ∧ (o.fin == p.fin) = false) ∨ (o ≠ p ∧ (o.tier == p.tier) = true ∧ (o.beg == p.beg) = true ∧ (o.fin == p.fin) = true ∧ (o.key.toList == p.key.toList) = false) := by
  by_cases h0 : o.tier = p.tier
  · by_cases h1 : o.beg = p.beg
    · by_cases h2 : o.fin = p.fin
      · by_cases h3 : o.key = p.key
        · exact .inl (by cases o; cases p; simp at h0 h1 h2 h3; simp [h0, h1, h2, h3])
        · exact .inr (.inr (.inr (.inr (⟨fun e => h3 (by rw [e]), by simpa using h0, by simpa using h1, by simpa using h2, ne_list h3⟩))))
      · exact .inr (.inr (.inr (.inl ⟨fun e => h2 (by rw [e]), by simpa using h0, by simpa using h1, by simpa using h2⟩)))
    · exact .inr (.inr (.inl ⟨fun e => h1 (by rw [e]), by simpa using h0, by simpa using h1⟩))
  · exact .inr (.inl ⟨fun e => h0 (by rw [e]), by simpa using h0⟩)

theorem eqEntry_any (a b : GEnt) (w : World) : Calls Tryd.prog 34 #[.agg #[.int .i64 a.tier, .int .i64 a.beg, .int .i64 a.fin, .string a.key], .agg #[.int .i64 b.tier, .int .i64 b.beg, .int .i64 b.fin, .string b.key]] w (IsBB (a = b) w) := by
  obtain ⟨a0, a1, a2, a3⟩ := a
  obtain ⟨b0, b1, b2, b3⟩ := b
  dsimp only
  by_cases g3 : a3 = b3
  · subst g3
    go_enter Tryd.func34, Tryd.ntmps34
    go_wp2
    all_goals go_ret
    all_goals refine ⟨_, ?_, rfl, bal (bal (Below.refl _ _) _) _⟩
    all_goals simp_all
  · have e3 := ne_list g3
    go_enter Tryd.func34, Tryd.ntmps34
    go_wp2
    all_goals go_ret
    all_goals refine ⟨_, ?_, rfl, bal (bal (Below.refl _ _) _) _⟩
    all_goals simp_all

set_option maxRecDepth 100000 in
theorem eqEntryS_any (A1 A2 : Option Addr) (c1 c2 : Nat) (xs ys : List GEnt) (B : Nat) (w : World) (h1 : EntsAt w B A1 xs) (h2 : EntsAt w B A2 ys) (hB : B ≤ w.heap.size) (hl : xs.length ≤ 4611686018427387904) (hl2 : ys.length ≤ 4611686018427387904) :
    Calls Tryd.prog 21 #[.slice A1 xs.length c1, .slice A2 ys.length c2] w (IsBB (xs = ys) w) := by
  by_cases hlen : xs.length = ys.length
  · have hd : ((xs.length : Int) != (ys.length : Int)) = false := by simp; omega
    have hd2 : ((xs.length : Int) == (ys.length : Int)) = true := by simp; omega
    have Hlen := Lib.hid hlen; clear hlen
    have H1 := Lib.hid h1; clear h1
    have H2 := Lib.hid h2; clear h2
    go_enter Tryd.func21, Tryd.ntmps21
    go_wp2_with fail
    go_loopw [5] (fun i wr => ∃ k : Nat, k ≤ xs.length ∧ i = .int .i64 k ∧ Hid (xs.take k = ys.take k) ∧ Below w.heap.size w wr) (fun i _ => xs.length - (intOf i).toNat)
    case atStart => exact ⟨0, by omega, rfl, Lib.hid (by simp), Below.refl _ _⟩
    case round =>
      obtain ⟨k, hk, rfl, H, hb⟩ := hrel
      by_cases hlt : k < xs.length
      · have hy : k < ys.length := by have := Hlen.out; omega
        obtain ⟨b1, o1, rfl, hb1, p0, p1, p2, p3⟩ := EntsAt.one (Sl.below H1.out hb hB) hlt
        obtain ⟨b2, o2, rfl, hb2, q0, q1, q2, q3⟩ := EntsAt.one (Sl.below H2.out hb hB) hy
        go_wp2_with fail
        go_still_tail 8, (by kernel_rfl)
        have hb' := hb.drew
        change wpList _ _ _ _ _ wr.drew
        generalize wr.drew = w2 at hb' ⊢
        clear p0 p1 p2 p3 q0 q1 q2 q3
        go_wp2_with fail
        refine (eqEntry_any xs[k] ys[k] w2).mono ?_
        rintro e w3 ⟨be, hbe, rfl, hb3⟩
        have hb4 : Below w.heap.size w w3 := hb'.trans (hb3.mono hb'.size)
        cases be
        · have he : ¬ xs[k] = ys[k] := fun h => by have := hbe.2 h; cases this
          have hn : ¬ (xs = ys) := fun h => he (by simp [h])
          have Hn := Lib.hid hn; clear hn he hbe
          go_wp2
          go_ret
          exact ⟨false, by simp [Hn.out], rfl, hb4⟩
        · have he : xs[k] = ys[k] := hbe.1 rfl
          have hn : xs.take (k + 1) = ys.take (k + 1) := by
            rw [List.take_succ_eq_append_getElem hlt, List.take_succ_eq_append_getElem hy, H.out, he]
          have Hn := Lib.hid hn; clear hn he hbe
          go_wp2
          go_roundw
          case rel => exact ⟨k + 1, by omega, by go_num, Hn, hb4⟩
          case measure => simp [intOf]; omega
      · have hyes : xs = ys := by
          have h1 := H.out
          have h2 := Hlen.out
          rw [List.take_of_length_le (by omega), List.take_of_length_le (by omega)] at h1
          exact h1
        have Hy := Lib.hid hyes; clear hyes
        go_wp2
        go_ret
        exact ⟨true, by simp [Hy.out], rfl, hb⟩
  · have hd : ((xs.length : Int) != (ys.length : Int)) = true := by simp; omega
    have hd2 : ((xs.length : Int) == (ys.length : Int)) = false := by simp; omega
    have hno : ¬ (xs = ys) := fun h => hlen (by rw [h])
    have Hno := Lib.hid hno; clear hno hlen h1 h2
    go_enter Tryd.func21, Tryd.ntmps21
    go_wp2
    go_ret
    exact ⟨false, by simp [Hno.out], rfl, Below.refl _ _⟩

theorem szEntry_any (o : GEnt) (left : Int) (w : World) (ho : o.fit) (h0 : 0 ≤ left) (h1 : left ≤ 1048576) :
    Calls Tryd.prog 23 #[.agg #[.int .i64 o.tier, .int .i64 o.beg, .int .i64 o.fin, .string o.key], .int .i64 left] w (Left o.small left w) := by
  have ok : o.key.size ≤ maxLen := by unfold GEnt.fit at ho; simp_all
  unfold maxLen at ok
  clear ho
  by_cases c1 : left - (o.key.size : Int) < 0
  · have d1 : decide (left - (o.key.size : Int) < 0) = true := by simpa using c1
    go_enter Tryd.func23, Tryd.ntmps23
    go_wp2
    go_ret
    exact ⟨-1, fun h => by omega, by omega, by omega, rfl, (Below.refl _ _).alloc (Nat.le_refl _) _⟩
  · have d1 : decide (left - (o.key.size : Int) < 0) = false := by simpa using c1
    go_enter Tryd.func23, Tryd.ntmps23
    go_wp2
    go_ret
    exact ⟨_, fun h => ⟨by unfold GEnt.small; omega, by omega⟩, by omega, by omega, rfl, (Below.refl _ _).alloc (Nat.le_refl _) _⟩

theorem szEntryS_any (A : Option Addr) (c : Nat) (xs : List GEnt) (left : Int) (B : Nat) (w : World) (h : EntsAt w B A xs) (hB : B ≤ w.heap.size) (hf : ∀ o ∈ xs, o.fit) (hl : xs.length ≤ maxLen) (h0 : 0 ≤ left) (h1 : left ≤ 1048576) :
    Calls Tryd.prog 10 #[.slice A xs.length c, .int .i64 left] w (Left (xs.length ≤ 1048576 ∧ ∀ o ∈ xs, o.small) left w) := by
  unfold maxLen at hl
  have H := Lib.hid h; clear h
  have Hf := Lib.hid hf; clear hf
  by_cases c1 : left - (xs.length : Int) < 0
  · have d1 : decide (left - (xs.length : Int) < 0) = true := by simpa using c1
    go_enter Tryd.func10, Tryd.ntmps10
    go_wp2
    go_ret
    exact ⟨-1, fun h => by omega, by omega, by omega, rfl, Below.refl _ _⟩
  · have d1 : decide (left - (xs.length : Int) < 0) = false := by simpa using c1
    go_enter Tryd.func10, Tryd.ntmps10
    go_wp2_with fail
    go_loopw [1, 5] (fun t i wr => ∃ (j : Nat) (v : Int), j ≤ xs.length ∧ i = .int .i64 j ∧ t = .int .i64 v ∧ 0 ≤ v ∧ v ≤ left ∧ Hid (∀ o ∈ xs.take j, o.small) ∧ Below w.heap.size w wr) (fun _ i _ => xs.length - (intOf i).toNat)
    case atStart => exact ⟨0, _, by omega, rfl, rfl, by omega, by omega, Lib.hid (by simp), Below.refl _ _⟩
    case round =>
      obtain ⟨j, v, hj, rfl, rfl, hv0, hv1, Hs, hb⟩ := hrel
      by_cases hlt : j < xs.length
      · obtain ⟨b, off, rfl, hbB, p0, p1, p2, p3⟩ := EntsAt.one (Sl.below H.out hb hB) hlt
        have hfit : xs[j].fit := Hf.out _ (List.getElem_mem hlt)
        have Hfit := Lib.hid hfit; clear hfit
        go_wp2_with fail
        refine (szEntry_any xs[j] v wr Hfit.out hv0 (by omega)).mono ?_
        rintro e w1 ⟨u, hu, hu1, hu2, rfl, hb1⟩
        have hb2 : Below w.heap.size w w1 := hb.trans (hb1.mono hb.size)
        have Hu := Lib.hid hu; clear hu p0 p1 p2 p3
        by_cases c2 : u < 0
        · have d2 : decide (u < 0) = true := by simpa using c2
          go_wp2
          go_ret
          exact ⟨-1, fun h => by omega, by omega, by omega, rfl, hb2⟩
        · have d2 : decide (u < 0) = false := by simpa using c2
          obtain ⟨hsm, hle⟩ := Hu.out (by omega)
          have hn : ∀ o ∈ xs.take (j + 1), o.small := by
            rw [List.take_succ_eq_append_getElem hlt]
            intro o ho
            rcases List.mem_append.1 ho with ho | ho
            · exact Hs.out o ho
            · simp at ho; subst ho; exact hsm
          have Hn := Lib.hid hn; clear hn hsm
          go_wp2
          go_roundw
          case rel => exact ⟨j + 1, u, by omega, by go_num, rfl, by omega, by omega, Hn, hb2⟩
          case measure => simp [intOf]; omega
      · have hn : ∀ o ∈ xs, o.small := by have := Hs.out; rwa [List.take_of_length_le (by omega)] at this
        have Hn := Lib.hid hn; clear hn
        go_wp2
        go_ret
        exact ⟨v, fun h => ⟨⟨by omega, Hn.out⟩, by omega⟩, by omega, by omega, rfl, hb⟩

theorem toEntry_any (o : GEnt) (w : World) : Calls Tryd.prog 27 #[.agg #[.int .i64 o.tier, .int .i64 o.beg, .int .i64 o.fin, .string o.key]] w fun e w' => e = .returned (.agg #[.int .i64 o.tier, .int .i64 o.beg, .int .i64 o.fin, .string o.key]) ∧ Below w.heap.size w w' := by
  go_enter Tryd.func27, Tryd.ntmps27
  go_wp2
  refine bodyPost_ret (v := .agg #[.int .i64 o.tier, .int .i64 o.beg, .int .i64 o.fin, .string o.key]) (by simp [results, Tryd.results27, go_sem]) rfl ⟨rfl, ?_⟩
  repeat' first | exact Below.refl _ _ | refine bal ?_ _ | refine bset ?_ (by simp) _

theorem infoEnt : (Tryd.prog.info? 42).map (fun i => (i.zero, i.size, i.bytes)) = some (some (.agg #[.int .i64 0, .int .i64 0, .int .i64 0, .string ⟨#[]⟩]), 4, 40) := by kernel_rfl

def zeroEnts (n : Nat) : Obj := .cells (madeCells #[.int .i64 0, .int .i64 0, .int .i64 0, .string ⟨#[]⟩] (n * 4)) 42

theorem make_ents (n : Nat) (hn : n ≤ 1048576) (W : World) : (Instr.makeSlice 32 (.int .i64 (n : Int)) (.int .i64 (n : Int))).run Tryd.prog W = .ok (.slice (some ⟨W.heap.size, 0, none⟩) n n) (W.alloc (zeroEnts n)) :=
  run_make_n (P := Tryd.prog) 32 42 _ 4 40 infoEnt Tryd.underlying32 n n (Nat.le_refl _) (by omega) (by omega) W

theorem zeroEnts_sl (n : Nat) (w : World) : EntsAt (w.alloc (zeroEnts n)) (w.heap.size + 1) (some ⟨w.heap.size, 0, none⟩) (List.replicate n zEnt) :=
  made_sl GEnt.vals zEnt 4 n 42 w _ rfl rfl

/-- a slice of them is answered, in new memory of its own -/
def NewEnts (xs : List GEnt) (w : World) (e : Ending) (w' : World) : Prop :=
  ∃ (A : Option Addr) (c : Nat), e = .returned (.slice A xs.length c) ∧ EntsAt w' w'.heap.size A xs ∧ Free w' A ∧ (∀ b, blk A = some b → w.heap.size ≤ b ∧ b < w'.heap.size) ∧ xs.length ≤ c ∧ Below w.heap.size w w'

set_option maxRecDepth 100000 in
theorem toEntryS_any (A : Option Addr) (c : Nat) (xs : List GEnt) (B : Nat) (w : World) (h : EntsAt w B A xs) (hB : B ≤ w.heap.size) (hl : xs.length ≤ 1048576) :
    Calls Tryd.prog 17 #[.slice A xs.length c] w (NewEnts xs w) := by
  have H := Lib.hid h; clear h
  have hmk := make_ents xs.length hl
  go_enter Tryd.func17, Tryd.ntmps17
  go_wp2_with fail
  have hsl := zeroEnts_sl xs.length w
  have hfr : Free (w.alloc (zeroEnts xs.length)) (some ⟨w.heap.size, 0, none⟩) := free_alloc _ _ _ _
  have hbw : Below w.heap.size w (w.alloc (zeroEnts xs.length)) := bal (Below.refl _ _) _
  have hsz : w.heap.size < (w.alloc (zeroEnts xs.length)).heap.size := by simp
  generalize w.alloc (zeroEnts xs.length) = w0 at hsl hfr hbw hsz ⊢
  clear hmk
  have Hsl := Lib.hid hsl; clear hsl
  have Hfr := Lib.hid hfr; clear hfr
  go_loopw [4] (fun i wr => ∃ j : Nat, j ≤ xs.length ∧ i = .int .i64 j ∧ Hid (EntsAt wr (w.heap.size + 1) (some ⟨w.heap.size, 0, none⟩) (xs.take j ++ (List.replicate xs.length zEnt).drop j)) ∧ Hid (Free wr (some ⟨w.heap.size, 0, none⟩)) ∧ w.heap.size < wr.heap.size ∧ Below w.heap.size w wr) (fun i _ => xs.length - (intOf i).toNat)
  case atStart => exact ⟨0, by omega, rfl, Lib.hid (by simpa using Hsl.out), Hfr, hsz, hbw⟩
  case round =>
    clear Hsl Hfr hbw hsz
    obtain ⟨j, hj, rfl, Hr, Hf, hs, hb⟩ := hrel
    by_cases hlt : j < xs.length
    · obtain ⟨b, off, rfl, hbB, p0, p1, p2, p3⟩ := EntsAt.one (Sl.below H.out hb hB) hlt
      have hjl : j < (xs.take j ++ (List.replicate xs.length zEnt).drop j).length := by simp; omega
      obtain ⟨g, o, e, hgB, q0, q1, q2, q3⟩ := EntsAt.one Hr.out hjl
      injection e with e
      injection e with e1 e2
      subst e1 e2
      obtain ⟨v0, q0⟩ : ∃ v, wr.cell? ⟨w.heap.size, 0 + j * 4, none⟩ = some v := ⟨_, q0⟩
      obtain ⟨v1, q1⟩ : ∃ v, wr.cell? ⟨w.heap.size, 0 + j * 4 + 1, none⟩ = some v := ⟨_, q1⟩
      obtain ⟨v2, q2⟩ : ∃ v, wr.cell? ⟨w.heap.size, 0 + j * 4 + 2, none⟩ = some v := ⟨_, q2⟩
      obtain ⟨v3, q3⟩ : ∃ v, wr.cell? ⟨w.heap.size, 0 + j * 4 + 3, none⟩ = some v := ⟨_, q3⟩
      have fz : ∀ i, wr.frozen? ⟨w.heap.size, i, none⟩ = false := Hf.out _ rfl
      rw [Nat.zero_add] at q0 q1 q2 q3
      have Q0 := Lib.hid q0; clear q0
      have Q1 := Lib.hid q1; clear q1
      have Q2 := Lib.hid q2; clear q2
      have Q3 := Lib.hid q3; clear q3
      have Fz := Lib.hid fz; clear fz
      go_wp2_with fail
      refine (toEntry_any xs[j] wr).mono ?_
      rintro e w1 ⟨rfl, hb1⟩
      have c0 : w1.cell? ⟨w.heap.size, j * 4, none⟩ = some v0 := (hb1.cell hs).trans Q0.out
      have f0 : w1.frozen? ⟨w.heap.size, j * 4, none⟩ = false := (hb1.frozen hs).trans (Fz.out _)
      have c1 : w1.cell? ⟨w.heap.size, j * 4 + 1, none⟩ = some v1 := (hb1.cell hs).trans Q1.out
      have f1 : w1.frozen? ⟨w.heap.size, j * 4 + 1, none⟩ = false := (hb1.frozen hs).trans (Fz.out _)
      have c2 : w1.cell? ⟨w.heap.size, j * 4 + 2, none⟩ = some v2 := (hb1.cell hs).trans Q2.out
      have f2 : w1.frozen? ⟨w.heap.size, j * 4 + 2, none⟩ = false := (hb1.frozen hs).trans (Fz.out _)
      have c3 : w1.cell? ⟨w.heap.size, j * 4 + 3, none⟩ = some v3 := (hb1.cell hs).trans Q3.out
      have f3 : w1.frozen? ⟨w.heap.size, j * 4 + 3, none⟩ = false := (hb1.frozen hs).trans (Fz.out _)
      have hn := Sl.puts (w1 := w1) Hr.out (fun x => rfl) hjl (fun i => hb1.cell hs) xs[j]
      rw [take_set xs _ j hlt (by simpa using hlt)] at hn
      have Hn := Lib.hid hn; clear hn
      have hfn : Free (puts w1 w.heap.size (j * 4) xs[j].vals) (some ⟨w.heap.size, 0, none⟩) := Free.puts _ (fun i => (hb1.frozen hs).trans (Fz.out i))
      have Hfn := Lib.hid hfn; clear hfn
      have hsn : w.heap.size < (puts w1 w.heap.size (j * 4) xs[j].vals).heap.size := by rw [puts_size]; exact Nat.lt_of_lt_of_le hs hb1.size
      have Hsn := Lib.hid hsn; clear hsn
      have hbn : Below w.heap.size w (puts w1 w.heap.size (j * 4) xs[j].vals) := puts_below _ (Nat.le_refl _) _ _ _ (bnext hb hb1)
      have Hbn := Lib.hid hbn; clear hbn
      go_wp2
      go_roundw
      case rel => exact ⟨j + 1, by omega, by go_num, Hn, Hfn, Hsn.out, Hbn.out⟩
      case measure => simp [intOf]; omega
    · obtain rfl : j = xs.length := by omega
      have hn : EntsAt wr (w.heap.size + 1) (some ⟨w.heap.size, 0, none⟩) xs := by simpa using Hr.out
      have Hn := Lib.hid hn; clear hn
      go_wp2
      go_ret
      exact ⟨_, _, rfl, Sl.more Hn.out hs, Hf.out, fun b e => by simp [blk] at e; subst e; exact ⟨Nat.le_refl _, hs⟩, Nat.le_refl _, hb⟩

end Go.Proofs.YtpackpocnonpiaaDoor
