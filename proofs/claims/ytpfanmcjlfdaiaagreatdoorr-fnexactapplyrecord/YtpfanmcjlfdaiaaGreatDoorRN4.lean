/-
  Several texts as one: contracts that the law leans on; each part says what it proves and its conditions.
-/
import Derived.Test.YtpfanmcjlfdaiaaGreatDoorRN3
import Derived.Test.YtpfanmcjlfdaiaaGreatDoorRN1
import Derived.Test.YtpfanmcjlfdaiaaGreatDoorRAggLaw
import Derived.Laws.StructEq
import Derived.ChangeKeysEq
import Derived.Deep.RegionHeld3

/- Words for slices of Entrys in memory, and contracts of the laws' own helpers on them (eq, sz, to). -/
namespace Go.Proofs.YtpfanmcjlfdaiaaGreatDoorR
open Go.ChangeShapes Go.WideShapes Go.ChangeAt Go.RowKit Go.Deep Go.Joins
set_option linter.unusedVariables false
set_option linter.unusedSimpArgs false

structure GEnt where
  tier : Int
  beg : Int
  fin : Int
  key : ByteArray
deriving DecidableEq

def GEnt.vals (o : GEnt) : List Value := [.int .i64 o.tier, .int .i64 o.beg, .int .i64 o.fin, .string o.key]

def GEnt.fit (o : GEnt) : Prop := I64 o.tier ∧ I64 o.beg ∧ I64 o.fin ∧ o.key.size ≤ maxLen

def GEnt.small (o : GEnt) : Prop := o.key.size ≤ 1048576

def zEnt : GEnt := ⟨0, 0, 0, ⟨#[]⟩⟩

/-- a slice of them -/
def EntsAt (w : World) (B : Nat) (A : Option Addr) (xs : List GEnt) : Prop := Sl GEnt.vals 4 w B A xs

theorem EntsAt.one {w : World} {B : Nat} {A : Option Addr} {xs : List GEnt} (h : EntsAt w B A xs) {k : Nat} (hk : k < xs.length) :
    ∃ b off, A = some ⟨b, off, none⟩ ∧ b < B ∧ w.cell? ⟨b, off + k * 4, none⟩ = some (.int .i64 xs[k].tier) ∧ w.cell? ⟨b, off + k * 4 + 1, none⟩ = some (.int .i64 xs[k].beg) ∧ w.cell? ⟨b, off + k * 4 + 2, none⟩ = some (.int .i64 xs[k].fin) ∧ w.cell? ⟨b, off + k * 4 + 3, none⟩ = some (.string xs[k].key) := by
  obtain ⟨b, off, e, hb, hc⟩ := Sl.at_ h hk
  exact ⟨b, off, e, hb, hc 0 _ rfl, hc 1 _ rfl, hc 2 _ rfl, hc 3 _ rfl⟩

theorem len_Ent (o : GEnt) : o.vals.length = 4 := rfl

/-- which of two's fields is the first to differ, in the forms that a walk asks -/
theorem ent_cases (o p : GEnt) : (o = p) ∨ (o ≠ p ∧ (o.tier == p.tier) = false) ∨ (o ≠ p ∧ (o.tier == p.tier) = true ∧ (o.beg == p.beg) = false) ∨ (o ≠ p ∧ (o.tier == p.tier) = true ∧ (o.beg == p.beg) = true ∧ (o.fin == p.fin) = false) ∨ (o ≠ p ∧ (o.tier == p.tier) = true ∧ (o.beg == p.beg) = true ∧ (o.fin == p.fin) = true ∧ (o.key.toList == p.key.toList) = false) := by
  by_cases h0 : o.tier = p.tier
  · by_cases h1 : o.beg = p.beg
    · by_cases h2 : o.fin = p.fin
      · by_cases h3 : o.key = p.key
        · exact .inl (by cases o; cases p; simp at h0 h1 h2 h3; simp [h0, h1, h2, h3])
        · exact .inr (.inr (.inr (.inr (⟨fun e => h3 (by rw [e]), by simpa using h0, by simpa using h1, by simpa using h2, ne_list h3⟩))))
      · exact .inr (.inr (.inr (.inl ⟨fun e => h2 (by rw [e]), by simpa using h0, by simpa using h1, by simpa using h2⟩)))
    · exact .inr (.inr (.inl ⟨fun e => h1 (by rw [e]), by simpa using h0, by simpa using h1⟩))
  · exact .inr (.inl ⟨fun e => h0 (by rw [e]), by simpa using h0⟩)

theorem eqEntry_any (a b : GEnt) (w : World) : Calls Tryz.prog 69 #[.agg #[.int .i64 a.tier, .int .i64 a.beg, .int .i64 a.fin, .string a.key], .agg #[.int .i64 b.tier, .int .i64 b.beg, .int .i64 b.fin, .string b.key]] w (IsBB (a = b) w) := by
  obtain ⟨a0, a1, a2, a3⟩ := a
  obtain ⟨b0, b1, b2, b3⟩ := b
  dsimp only
  by_cases g3 : a3 = b3
  · subst g3
    go_enter Tryz.func69, Tryz.ntmps69
    go_wp2
    all_goals go_ret
    all_goals refine ⟨_, ?_, rfl, bal (bal (Below.refl _ _) _) _⟩
    all_goals simp_all
  · have e3 := ne_list g3
    go_enter Tryz.func69, Tryz.ntmps69
    go_wp2
    all_goals go_ret
    all_goals refine ⟨_, ?_, rfl, bal (bal (Below.refl _ _) _) _⟩
    all_goals simp_all

set_option maxRecDepth 100000 in
theorem eqEntryS_any (A1 A2 : Option Addr) (c1 c2 : Nat) (xs ys : List GEnt) (B : Nat) (w : World) (h1 : EntsAt w B A1 xs) (h2 : EntsAt w B A2 ys) (hB : B ≤ w.heap.size) (hl : xs.length ≤ 4611686018427387904) (hl2 : ys.length ≤ 4611686018427387904) :
    Calls Tryz.prog 35 #[.slice A1 xs.length c1, .slice A2 ys.length c2] w (IsBB (xs = ys) w) := by
  by_cases hlen : xs.length = ys.length
  · have hd : ((xs.length : Int) != (ys.length : Int)) = false := by simp; omega
    have hd2 : ((xs.length : Int) == (ys.length : Int)) = true := by simp; omega
    have Hlen := Lib.hid hlen; clear hlen
    have H1 := Lib.hid h1; clear h1
    have H2 := Lib.hid h2; clear h2
    go_enter Tryz.func35, Tryz.ntmps35
    go_wp2_with fail
    go_loopw [5] (fun i wr => ∃ k : Nat, k ≤ xs.length ∧ i = .int .i64 k ∧ Hid (xs.take k = ys.take k) ∧ Below w.heap.size w wr) (fun i _ => xs.length - (intOf i).toNat)
    case atStart => exact ⟨0, by omega, rfl, Lib.hid (by simp), Below.refl _ _⟩
    case round =>
      obtain ⟨k, hk, rfl, H, hb⟩ := hrel
      by_cases hlt : k < xs.length
      · have hy : k < ys.length := by have := Hlen.out; omega
        obtain ⟨b1, o1, rfl, hb1, p0, p1, p2, p3⟩ := EntsAt.one (Sl.below H1.out hb hB) hlt
        obtain ⟨b2, o2, rfl, hb2, q0, q1, q2, q3⟩ := EntsAt.one (Sl.below H2.out hb hB) hy
        go_wp2_with fail
        go_still_tail 8, (by kernel_rfl)
        have hb' := hb.drew
        change wpList _ _ _ _ _ wr.drew
        generalize wr.drew = w2 at hb' ⊢
        clear p0 p1 p2 p3 q0 q1 q2 q3
        go_wp2_with fail
        refine (eqEntry_any xs[k] ys[k] w2).mono ?_
        rintro e w3 ⟨be, hbe, rfl, hb3⟩
        have hb4 : Below w.heap.size w w3 := hb'.trans (hb3.mono hb'.size)
        cases be
        · have he : ¬ xs[k] = ys[k] := fun h => by have := hbe.2 h; cases this
          have hn : ¬ (xs = ys) := fun h => he (by simp [h])
          have Hn := Lib.hid hn; clear hn he hbe
          go_wp2
          go_ret
          exact ⟨false, by simp [Hn.out], rfl, hb4⟩
        · have he : xs[k] = ys[k] := hbe.1 rfl
          have hn : xs.take (k + 1) = ys.take (k + 1) := by
            rw [List.take_succ_eq_append_getElem hlt, List.take_succ_eq_append_getElem hy, H.out, he]
          have Hn := Lib.hid hn; clear hn he hbe
          go_wp2
          go_roundw
          case rel => exact ⟨k + 1, by omega, by go_num, Hn, hb4⟩
          case measure => simp [intOf]; omega
      · have hyes : xs = ys := by
          have h1 := H.out
          have h2 := Hlen.out
          rw [List.take_of_length_le (by omega), List.take_of_length_le (by omega)] at h1
          exact h1
        have Hy := Lib.hid hyes; clear hyes
        go_wp2
        go_ret
        exact ⟨true, by simp [Hy.out], rfl, hb⟩
  · have hd : ((xs.length : Int) != (ys.length : Int)) = true := by simp; omega
    have hd2 : ((xs.length : Int) == (ys.length : Int)) = false := by simp; omega
    have hno : ¬ (xs = ys) := fun h => hlen (by rw [h])
    have Hno := Lib.hid hno; clear hno hlen h1 h2
    go_enter Tryz.func35, Tryz.ntmps35
    go_wp2
    go_ret
    exact ⟨false, by simp [Hno.out], rfl, Below.refl _ _⟩

theorem szEntry_any (o : GEnt) (left : Int) (w : World) (ho : o.fit) (h0 : 0 ≤ left) (h1 : left ≤ 1048576) :
    Calls Tryz.prog 52 #[.agg #[.int .i64 o.tier, .int .i64 o.beg, .int .i64 o.fin, .string o.key], .int .i64 left] w (Left o.small left w) := by
  have ok : o.key.size ≤ maxLen := by unfold GEnt.fit at ho; simp_all
  unfold maxLen at ok
  clear ho
  by_cases c1 : left - (o.key.size : Int) < 0
  · have d1 : decide (left - (o.key.size : Int) < 0) = true := by simpa using c1
    go_enter Tryz.func52, Tryz.ntmps52
    go_wp2
    go_ret
    exact ⟨-1, fun h => by omega, by omega, by omega, rfl, (Below.refl _ _).alloc (Nat.le_refl _) _⟩
  · have d1 : decide (left - (o.key.size : Int) < 0) = false := by simpa using c1
    go_enter Tryz.func52, Tryz.ntmps52
    go_wp2
    go_ret
    exact ⟨_, fun h => ⟨by unfold GEnt.small; omega, by omega⟩, by omega, by omega, rfl, (Below.refl _ _).alloc (Nat.le_refl _) _⟩

theorem szEntryS_any (A : Option Addr) (c : Nat) (xs : List GEnt) (left : Int) (B : Nat) (w : World) (h : EntsAt w B A xs) (hB : B ≤ w.heap.size) (hf : ∀ o ∈ xs, o.fit) (hl : xs.length ≤ maxLen) (h0 : 0 ≤ left) (h1 : left ≤ 1048576) :
    Calls Tryz.prog 20 #[.slice A xs.length c, .int .i64 left] w (Left (xs.length ≤ 1048576 ∧ ∀ o ∈ xs, o.small) left w) := by
  unfold maxLen at hl
  have H := Lib.hid h; clear h
  have Hf := Lib.hid hf; clear hf
  by_cases c1 : left - (xs.length : Int) < 0
  · have d1 : decide (left - (xs.length : Int) < 0) = true := by simpa using c1
    go_enter Tryz.func20, Tryz.ntmps20
    go_wp2
    go_ret
    exact ⟨-1, fun h => by omega, by omega, by omega, rfl, Below.refl _ _⟩
  · have d1 : decide (left - (xs.length : Int) < 0) = false := by simpa using c1
    go_enter Tryz.func20, Tryz.ntmps20
    go_wp2_with fail
    go_loopw [1, 5] (fun t i wr => ∃ (j : Nat) (v : Int), j ≤ xs.length ∧ i = .int .i64 j ∧ t = .int .i64 v ∧ 0 ≤ v ∧ v ≤ left ∧ Hid (∀ o ∈ xs.take j, o.small) ∧ Below w.heap.size w wr) (fun _ i _ => xs.length - (intOf i).toNat)
    case atStart => exact ⟨0, _, by omega, rfl, rfl, by omega, by omega, Lib.hid (by simp), Below.refl _ _⟩
    case round =>
      obtain ⟨j, v, hj, rfl, rfl, hv0, hv1, Hs, hb⟩ := hrel
      by_cases hlt : j < xs.length
      · obtain ⟨b, off, rfl, hbB, p0, p1, p2, p3⟩ := EntsAt.one (Sl.below H.out hb hB) hlt
        have hfit : xs[j].fit := Hf.out _ (List.getElem_mem hlt)
        have Hfit := Lib.hid hfit; clear hfit
        go_wp2_with fail
        refine (szEntry_any xs[j] v wr Hfit.out hv0 (by omega)).mono ?_
        rintro e w1 ⟨u, hu, hu1, hu2, rfl, hb1⟩
        have hb2 : Below w.heap.size w w1 := hb.trans (hb1.mono hb.size)
        have Hu := Lib.hid hu; clear hu p0 p1 p2 p3
        by_cases c2 : u < 0
        · have d2 : decide (u < 0) = true := by simpa using c2
          go_wp2
          go_ret
          exact ⟨-1, fun h => by omega, by omega, by omega, rfl, hb2⟩
        · have d2 : decide (u < 0) = false := by simpa using c2
          obtain ⟨hsm, hle⟩ := Hu.out (by omega)
          have hn : ∀ o ∈ xs.take (j + 1), o.small := by
            rw [List.take_succ_eq_append_getElem hlt]
            intro o ho
            rcases List.mem_append.1 ho with ho | ho
            · exact Hs.out o ho
            · simp at ho; subst ho; exact hsm
          have Hn := Lib.hid hn; clear hn hsm
          go_wp2
          go_roundw
          case rel => exact ⟨j + 1, u, by omega, by go_num, rfl, by omega, by omega, Hn, hb2⟩
          case measure => simp [intOf]; omega
      · have hn : ∀ o ∈ xs, o.small := by have := Hs.out; rwa [List.take_of_length_le (by omega)] at this
        have Hn := Lib.hid hn; clear hn
        go_wp2
        go_ret
        exact ⟨v, fun h => ⟨⟨by omega, Hn.out⟩, by omega⟩, by omega, by omega, rfl, hb⟩

theorem toEntry_any (o : GEnt) (w : World) : Calls Tryz.prog 60 #[.agg #[.int .i64 o.tier, .int .i64 o.beg, .int .i64 o.fin, .string o.key]] w fun e w' => e = .returned (.agg #[.int .i64 o.tier, .int .i64 o.beg, .int .i64 o.fin, .string o.key]) ∧ Below w.heap.size w w' := by
  go_enter Tryz.func60, Tryz.ntmps60
  go_wp2
  refine bodyPost_ret (v := .agg #[.int .i64 o.tier, .int .i64 o.beg, .int .i64 o.fin, .string o.key]) (by simp [results, Tryz.results60, go_sem]) rfl ⟨rfl, ?_⟩
  repeat' first | exact Below.refl _ _ | refine bal ?_ _ | refine bset ?_ (by simp) _

theorem infoEnt : (Tryz.prog.info? 103).map (fun i => (i.zero, i.size, i.bytes)) = some (some (.agg #[.int .i64 0, .int .i64 0, .int .i64 0, .string ⟨#[]⟩]), 4, 40) := by kernel_rfl

def zeroEnts (n : Nat) : Obj := .cells (madeCells #[.int .i64 0, .int .i64 0, .int .i64 0, .string ⟨#[]⟩] (n * 4)) 103

theorem make_ents (n : Nat) (hn : n ≤ 1048576) (W : World) : (Instr.makeSlice 31 (.int .i64 (n : Int)) (.int .i64 (n : Int))).run Tryz.prog W = .ok (.slice (some ⟨W.heap.size, 0, none⟩) n n) (W.alloc (zeroEnts n)) :=
  run_make_n (P := Tryz.prog) 31 103 _ 4 40 infoEnt Tryz.underlying31 n n (Nat.le_refl _) (by omega) (by omega) W

theorem zeroEnts_sl (n : Nat) (w : World) : EntsAt (w.alloc (zeroEnts n)) (w.heap.size + 1) (some ⟨w.heap.size, 0, none⟩) (List.replicate n zEnt) :=
  made_sl GEnt.vals zEnt 4 n 103 w _ rfl rfl

/-- a slice of them is answered, in new memory of its own -/
def NewEnts (xs : List GEnt) (w : World) (e : Ending) (w' : World) : Prop :=
  ∃ (A : Option Addr) (c : Nat), e = .returned (.slice A xs.length c) ∧ EntsAt w' w'.heap.size A xs ∧ Free w' A ∧ (∀ b, blk A = some b → w.heap.size ≤ b ∧ b < w'.heap.size) ∧ xs.length ≤ c ∧ Below w.heap.size w w'

set_option maxRecDepth 100000 in
theorem toEntryS_any (A : Option Addr) (c : Nat) (xs : List GEnt) (B : Nat) (w : World) (h : EntsAt w B A xs) (hB : B ≤ w.heap.size) (hl : xs.length ≤ 1048576) :
    Calls Tryz.prog 26 #[.slice A xs.length c] w (NewEnts xs w) := by
  have H := Lib.hid h; clear h
  have hmk := make_ents xs.length hl
  go_enter Tryz.func26, Tryz.ntmps26
  go_wp2_with fail
  have hsl := zeroEnts_sl xs.length w
  have hfr : Free (w.alloc (zeroEnts xs.length)) (some ⟨w.heap.size, 0, none⟩) := free_alloc _ _ _ _
  have hbw : Below w.heap.size w (w.alloc (zeroEnts xs.length)) := bal (Below.refl _ _) _
  have hsz : w.heap.size < (w.alloc (zeroEnts xs.length)).heap.size := by simp
  generalize w.alloc (zeroEnts xs.length) = w0 at hsl hfr hbw hsz ⊢
  clear hmk
  have Hsl := Lib.hid hsl; clear hsl
  have Hfr := Lib.hid hfr; clear hfr
  go_loopw [4] (fun i wr => ∃ j : Nat, j ≤ xs.length ∧ i = .int .i64 j ∧ Hid (EntsAt wr (w.heap.size + 1) (some ⟨w.heap.size, 0, none⟩) (xs.take j ++ (List.replicate xs.length zEnt).drop j)) ∧ Hid (Free wr (some ⟨w.heap.size, 0, none⟩)) ∧ w.heap.size < wr.heap.size ∧ Below w.heap.size w wr) (fun i _ => xs.length - (intOf i).toNat)
  case atStart => exact ⟨0, by omega, rfl, Lib.hid (by simpa using Hsl.out), Hfr, hsz, hbw⟩
  case round =>
    clear Hsl Hfr hbw hsz
    obtain ⟨j, hj, rfl, Hr, Hf, hs, hb⟩ := hrel
    by_cases hlt : j < xs.length
    · obtain ⟨b, off, rfl, hbB, p0, p1, p2, p3⟩ := EntsAt.one (Sl.below H.out hb hB) hlt
      have hjl : j < (xs.take j ++ (List.replicate xs.length zEnt).drop j).length := by simp; omega
      obtain ⟨g, o, e, hgB, q0, q1, q2, q3⟩ := EntsAt.one Hr.out hjl
      injection e with e
      injection e with e1 e2
      subst e1 e2
      obtain ⟨v0, q0⟩ : ∃ v, wr.cell? ⟨w.heap.size, 0 + j * 4, none⟩ = some v := ⟨_, q0⟩
      obtain ⟨v1, q1⟩ : ∃ v, wr.cell? ⟨w.heap.size, 0 + j * 4 + 1, none⟩ = some v := ⟨_, q1⟩
      obtain ⟨v2, q2⟩ : ∃ v, wr.cell? ⟨w.heap.size, 0 + j * 4 + 2, none⟩ = some v := ⟨_, q2⟩
      obtain ⟨v3, q3⟩ : ∃ v, wr.cell? ⟨w.heap.size, 0 + j * 4 + 3, none⟩ = some v := ⟨_, q3⟩
      have fz : ∀ i, wr.frozen? ⟨w.heap.size, i, none⟩ = false := Hf.out _ rfl
      rw [Nat.zero_add] at q0 q1 q2 q3
      have Q0 := Lib.hid q0; clear q0
      have Q1 := Lib.hid q1; clear q1
      have Q2 := Lib.hid q2; clear q2
      have Q3 := Lib.hid q3; clear q3
      have Fz := Lib.hid fz; clear fz
      go_wp2_with fail
      refine (toEntry_any xs[j] wr).mono ?_
      rintro e w1 ⟨rfl, hb1⟩
      have c0 : w1.cell? ⟨w.heap.size, j * 4, none⟩ = some v0 := (hb1.cell hs).trans Q0.out
      have f0 : w1.frozen? ⟨w.heap.size, j * 4, none⟩ = false := (hb1.frozen hs).trans (Fz.out _)
      have c1 : w1.cell? ⟨w.heap.size, j * 4 + 1, none⟩ = some v1 := (hb1.cell hs).trans Q1.out
      have f1 : w1.frozen? ⟨w.heap.size, j * 4 + 1, none⟩ = false := (hb1.frozen hs).trans (Fz.out _)
      have c2 : w1.cell? ⟨w.heap.size, j * 4 + 2, none⟩ = some v2 := (hb1.cell hs).trans Q2.out
      have f2 : w1.frozen? ⟨w.heap.size, j * 4 + 2, none⟩ = false := (hb1.frozen hs).trans (Fz.out _)
      have c3 : w1.cell? ⟨w.heap.size, j * 4 + 3, none⟩ = some v3 := (hb1.cell hs).trans Q3.out
      have f3 : w1.frozen? ⟨w.heap.size, j * 4 + 3, none⟩ = false := (hb1.frozen hs).trans (Fz.out _)
      have hn := Sl.puts (w1 := w1) Hr.out (fun x => rfl) hjl (fun i => hb1.cell hs) xs[j]
      rw [take_set xs _ j hlt (by simpa using hlt)] at hn
      have Hn := Lib.hid hn; clear hn
      have hfn : Free (puts w1 w.heap.size (j * 4) xs[j].vals) (some ⟨w.heap.size, 0, none⟩) := Free.puts _ (fun i => (hb1.frozen hs).trans (Fz.out i))
      have Hfn := Lib.hid hfn; clear hfn
      have hsn : w.heap.size < (puts w1 w.heap.size (j * 4) xs[j].vals).heap.size := by rw [puts_size]; exact Nat.lt_of_lt_of_le hs hb1.size
      have Hsn := Lib.hid hsn; clear hsn
      have hbn : Below w.heap.size w (puts w1 w.heap.size (j * 4) xs[j].vals) := puts_below _ (Nat.le_refl _) _ _ _ (bnext hb hb1)
      have Hbn := Lib.hid hbn; clear hbn
      go_wp2
      go_roundw
      case rel => exact ⟨j + 1, by omega, by go_num, Hn, Hfn, Hsn.out, Hbn.out⟩
      case measure => simp [intOf]; omega
    · obtain rfl : j = xs.length := by omega
      have hn : EntsAt wr (w.heap.size + 1) (some ⟨w.heap.size, 0, none⟩) xs := by simpa using Hr.out
      have Hn := Lib.hid hn; clear hn
      go_wp2
      go_ret
      exact ⟨_, _, rfl, Sl.more Hn.out hs, Hf.out, fun b e => by simp [blk] at e; subst e; exact ⟨Nat.le_refl _, hs⟩, Nat.le_refl _, hb⟩

end Go.Proofs.YtpfanmcjlfdaiaaGreatDoorR

/- Words for records, and contracts of the laws' own helpers on them (eq, sz, to). No conditions. -/
namespace Go.Proofs.YtpfanmcjlfdaiaaGreatDoorR
open Go.ChangeShapes Go.WideShapes Go.ChangeAt Go.RowKit Go.Deep Go.Joins
set_option linter.unusedVariables false
set_option linter.unusedSimpArgs false

/-- a record as data -/
structure GRec where
  kind : Int
  tok : Int
  tier : Int
  beg : Int
  fin : Int
  key : ByteArray
deriving DecidableEq

def GRec.vals (r : GRec) : List Value := [.int .i64 r.kind, .int .i64 r.tok, .int .i64 r.tier, .int .i64 r.beg, .int .i64 r.fin, .string r.key]

def GRec.fit (r : GRec) : Prop := I64 r.kind ∧ I64 r.tok ∧ I64 r.tier ∧ I64 r.beg ∧ I64 r.fin ∧ r.key.size ≤ maxLen

def GRec.small (r : GRec) : Prop := r.key.size ≤ 1048576

/-- a record's entry -/
def GRec.ent (r : GRec) : GEnt := ⟨r.tier, r.beg, r.fin, r.key⟩

/-- a record lies in a block of its own -/
def RecAt (w : World) (b : Nat) (r : GRec) : Prop := Cells w b 0 r.vals

theorem RecAt.cells {w : World} {b : Nat} {r : GRec} (h : RecAt w b r) : w.cell? ⟨b, 0, none⟩ = some (.int .i64 r.kind) ∧ w.cell? ⟨b, 1, none⟩ = some (.int .i64 r.tok) ∧ w.cell? ⟨b, 2, none⟩ = some (.int .i64 r.tier) ∧ w.cell? ⟨b, 3, none⟩ = some (.int .i64 r.beg) ∧ w.cell? ⟨b, 4, none⟩ = some (.int .i64 r.fin) ∧ w.cell? ⟨b, 5, none⟩ = some (.string r.key) := ⟨h 0 _ rfl, h 1 _ rfl, h 2 _ rfl, h 3 _ rfl, h 4 _ rfl, h 5 _ rfl⟩

theorem Cells.new (w : World) (vs : List Value) (t : TypeId) : Cells (w.alloc (.cells ⟨vs⟩ t)) w.heap.size 0 vs := fun j v h => by
  rw [World.cell?_alloc_new, Nat.zero_add]
  simpa using h

theorem Cells.below {w w' : World} {b o B : Nat} {vs : List Value} (h : Cells w b o vs) (hb : Below B w w') (hB : b < B) : Cells w' b o vs := fun j v hv => (hb.cell (p := ⟨b, o + j, none⟩) hB).trans (h j v hv)

theorem Cells.far {w : World} {b o : Nat} {vs : List Value} (h : Cells w b o vs) {p : Addr} (hp : b ≠ p.block) (u : Value) : Cells (w.setCell p u) b o vs := fun j v hv =>
  (World.cell?_setCell_other w p ⟨b, o + j, none⟩ u (fun he => hp (by rw [he]))).trans (h j v hv)

theorem RecAt.new (w : World) (r : GRec) (t : TypeId) : RecAt (w.alloc (.cells #[.int .i64 r.kind, .int .i64 r.tok, .int .i64 r.tier, .int .i64 r.beg, .int .i64 r.fin, .string r.key] t)) w.heap.size r := Cells.new w r.vals t

theorem RecAt.below {w w' : World} {b B : Nat} {r : GRec} (h : RecAt w b r) (hb : Below B w w') (hB : b < B) : RecAt w' b r := Cells.below h hb hB

theorem toRecord_any (o : GRec) (w : World) : Calls Tryz.prog 9 #[.agg #[.int .i64 o.kind, .int .i64 o.tok, .int .i64 o.tier, .int .i64 o.beg, .int .i64 o.fin, .string o.key]] w fun e w' => e = .returned (.agg #[.int .i64 o.kind, .int .i64 o.tok, .int .i64 o.tier, .int .i64 o.beg, .int .i64 o.fin, .string o.key]) ∧ Below w.heap.size w w' := by
  go_enter Tryz.func9, Tryz.ntmps9
  go_wp2
  refine bodyPost_ret (v := .agg #[.int .i64 o.kind, .int .i64 o.tok, .int .i64 o.tier, .int .i64 o.beg, .int .i64 o.fin, .string o.key]) (by simp [results, Tryz.results9, go_sem]) rfl ⟨rfl, ?_⟩
  repeat' first | exact Below.refl _ _ | refine bal ?_ _ | refine bset ?_ (by simp) _

theorem szRecord_any (o : GRec) (left : Int) (w : World) (ok : o.key.size ≤ maxLen) (h0 : 0 ≤ left) (h1 : left ≤ 1048576) :
    Calls Tryz.prog 6 #[.agg #[.int .i64 o.kind, .int .i64 o.tok, .int .i64 o.tier, .int .i64 o.beg, .int .i64 o.fin, .string o.key], .int .i64 left] w (Left o.small left w) := by
  unfold maxLen at ok
  by_cases c1 : left - (o.key.size : Int) < 0
  · have d1 : decide (left - (o.key.size : Int) < 0) = true := by simpa using c1
    go_enter Tryz.func6, Tryz.ntmps6
    go_wp2
    go_ret
    exact ⟨-1, fun h => by omega, by omega, by omega, rfl, (Below.refl _ _).alloc (Nat.le_refl _) _⟩
  · have d1 : decide (left - (o.key.size : Int) < 0) = false := by simpa using c1
    go_enter Tryz.func6, Tryz.ntmps6
    go_wp2
    go_ret
    exact ⟨_, fun h => ⟨by unfold GRec.small; omega, by omega⟩, by omega, by omega, rfl, (Below.refl _ _).alloc (Nat.le_refl _) _⟩

end Go.Proofs.YtpfanmcjlfdaiaaGreatDoorR

/- Words for arrays of three numbers, and contracts of the laws' own helpers on them (to, eq). No conditions. -/
namespace Go.Proofs.YtpfanmcjlfdaiaaGreatDoorR
open Go.ChangeShapes Go.WideShapes Go.ChangeAt Go.RowKit Go.Deep Go.Joins
set_option linter.unusedVariables false
set_option linter.unusedSimpArgs false

/-- three numbers -/
structure GTri where
  a : Int
  b : Int
  c : Int
deriving DecidableEq

def GTri.vals (t : GTri) : List Value := [.int .i64 t.a, .int .i64 t.b, .int .i64 t.c]

def GTri.fit (t : GTri) : Prop := I64 t.a ∧ I64 t.b ∧ I64 t.c

def zTri : GTri := ⟨0, 0, 0⟩

/-- its number of a tier -/
def GTri.at (t : GTri) (i : Int) : Int := if i = 0 then t.a else if i = 1 then t.b else t.c

def GTri.set (t : GTri) (i v : Int) : GTri := if i = 0 then ⟨v, t.b, t.c⟩ else if i = 1 then ⟨t.a, v, t.c⟩ else ⟨t.a, t.b, v⟩

def GTri.upto (t : GTri) (n : Nat) : GTri := ⟨if 0 < n then t.a else 0, if 1 < n then t.b else 0, if 2 < n then t.c else 0⟩

def Tri (w : World) (b : Nat) (t : GTri) : Prop := w.cell? ⟨b, 0, none⟩ = some (.int .i64 t.a) ∧ w.cell? ⟨b, 1, none⟩ = some (.int .i64 t.b) ∧ w.cell? ⟨b, 2, none⟩ = some (.int .i64 t.c)

theorem Tri.cells {w : World} {b : Nat} {t : GTri} (h : Tri w b t) : Cells w b 0 t.vals := fun j v hv => by
  rw [Nat.zero_add]
  match j, hv with
  | 0, hv => simp [GTri.vals] at hv; subst hv; exact h.1
  | 1, hv => simp [GTri.vals] at hv; subst hv; exact h.2.1
  | 2, hv => simp [GTri.vals] at hv; subst hv; exact h.2.2
  | j + 3, hv => simp [GTri.vals] at hv

theorem Cells.tri {w : World} {b : Nat} {t : GTri} (h : Cells w b 0 t.vals) : Tri w b t := ⟨h 0 _ rfl, h 1 _ rfl, h 2 _ rfl⟩

theorem Tri.new (w : World) (a : GTri) (t : TypeId) : Tri (w.alloc (.cells #[.int .i64 a.a, .int .i64 a.b, .int .i64 a.c] t)) w.heap.size a := (Cells.new w a.vals t).tri

theorem Tri.below {w w' : World} {b B : Nat} {t : GTri} (h : Tri w b t) (hb : Below B w w') (hB : b < B) : Tri w' b t := (h.cells.below hb hB).tri

/-- two arrays of three numbers, held against each other -/
theorem run_eq3 {P : Program} {t e : TypeId} {i : TypeInfo} (ht : P.underlying t = some (.array 3 e)) (he : P.underlying e = some (.int .i64)) (hi : P.info? e = some i) (hc : P.cellsOf e = 1) (hp : P.plainKey e = true) (a b : GTri) (r : Bool) (hr : decide (a = b) = r) (w : World) :
    (Op.equalIn 10000 t (.agg #[.int .i64 a.a, .int .i64 a.b, .int .i64 a.c]) (.agg #[.int .i64 b.a, .int .i64 b.b, .int .i64 b.c])).run P w = .ok r w := by
  subst hr
  rw [show (10000 : Nat) = 9998 + 1 + 1 from rfl, run_equalIn_array w (9998 + 1) _ _ ht hi, hc]
  have r3 : List.range 3 = [0, 1, 2] := rfl
  rw [r3]
  simp only [Op.eqItems, Sem.run_bind]
  rw [run_part_plain w hp (v := .int .i64 a.a) (by rfl)]
  simp only [Result.andThen_ok]
  rw [run_part_plain w hp (v := .int .i64 b.a) (by rfl)]
  simp only [Result.andThen_ok]
  rw [run_equalIn_int w 9998 e .i64 .i64 _ _ he]
  simp only [Result.andThen_ok]
  obtain ⟨a0, a1, a2⟩ := a
  obtain ⟨b0, b1, b2⟩ := b
  dsimp only
  by_cases h0 : a0 = b0
  rotate_left
  · simp [h0]
  subst h0
  simp only [beq_self_eq_true, Bool.not_true, Bool.false_eq_true, if_false, Sem.run_bind]
  rw [run_part_plain w hp (v := .int .i64 a1) (by rfl)]
  simp only [Result.andThen_ok]
  rw [run_part_plain w hp (v := .int .i64 b1) (by rfl)]
  simp only [Result.andThen_ok]
  rw [run_equalIn_int w 9998 e .i64 .i64 _ _ he]
  simp only [Result.andThen_ok]
  by_cases h1 : a1 = b1
  rotate_left
  · simp [h1]
  subst h1
  simp only [beq_self_eq_true, Bool.not_true, Bool.false_eq_true, if_false, Sem.run_bind]
  rw [run_part_plain w hp (v := .int .i64 a2) (by rfl)]
  simp only [Result.andThen_ok]
  rw [run_part_plain w hp (v := .int .i64 b2) (by rfl)]
  simp only [Result.andThen_ok]
  rw [run_equalIn_int w 9998 e .i64 .i64 _ _ he]
  simp only [Result.andThen_ok]
  by_cases h2 : a2 = b2 <;> simp [h2]

theorem infoI : ∃ i, Tryz.prog.info? 3 = some i := Option.isSome_iff_exists.1 (show (Tryz.prog.info? 3).isSome = true by kernel_rfl)

theorem eq3 (a b : GTri) (r : Bool) (hr : decide (a = b) = r) (w : World) : (Op.equalIn 10000 24 (.agg #[.int .i64 a.a, .int .i64 a.b, .int .i64 a.c]) (.agg #[.int .i64 b.a, .int .i64 b.b, .int .i64 b.c])).run Tryz.prog w = .ok r w := by
  obtain ⟨i, hi⟩ := infoI
  exact run_eq3 Tryz.underlying24 Tryz.underlying3 hi (by kernel_rfl) (by kernel_rfl) a b r hr w

theorem bdrewB {B : Nat} {a w : World} (h : Below B a w) (n : Nat) : Below B a (w.drewN n) := ⟨h.os, h.tape, h.output, h.size, h.block⟩

set_option maxRecDepth 100000 in
theorem toIntA3_any (a : GTri) (w : World) : Calls Tryz.prog 28 #[.agg #[.int .i64 a.a, .int .i64 a.b, .int .i64 a.c]] w fun e w' => e = .returned (.agg #[.int .i64 a.a, .int .i64 a.b, .int .i64 a.c]) ∧ Below w.heap.size w w' := by
  go_enter Tryz.func28, Tryz.ntmps28
  go_wp2_with fail
  obtain ⟨W, hW⟩ : ∃ W, W = ((w.alloc (.cells #[.int .i64 a.a, .int .i64 a.b, .int .i64 a.c] 24)).alloc (.cells #[.int .i64 0, .int .i64 0, .int .i64 0] 24)).alloc (.cells #[.int .i64 0, .int .i64 0, .int .i64 0] 24) := ⟨_, rfl⟩
  have ht : Tri W w.heap.size a := by
    rw [hW]
    exact ((Tri.new w a _).below (bal (Below.refl _ _) _) (by simp)).below (bal (Below.refl _ _) _) (by simp <;> omega)
  have hz : Tri W (w.heap.size + 1) zTri := by
    rw [hW]
    have := (Tri.new (w.alloc (.cells #[.int .i64 a.a, .int .i64 a.b, .int .i64 a.c] 24)) zTri 24).below (bal (Below.refl _ _) (.cells #[.int .i64 0, .int .i64 0, .int .i64 0] 24)) (by simp)
    simpa [zTri] using this
  have ho : Tri W (w.heap.size + 1 + 1) zTri := by
    rw [hW]
    have := Tri.new ((w.alloc (.cells #[.int .i64 a.a, .int .i64 a.b, .int .i64 a.c] 24)).alloc (.cells #[.int .i64 0, .int .i64 0, .int .i64 0] 24)) zTri 24
    simpa [zTri] using this
  have hg : ∀ i, W.frozen? ⟨w.heap.size + 1, i, none⟩ = false := fun i => by rw [hW]; simp [go_sem]
  have hf : ∀ i, W.frozen? ⟨w.heap.size + 1 + 1, i, none⟩ = false := fun i => by rw [hW]; simp [go_sem]
  have hb : Below w.heap.size w W := by rw [hW]; exact bal (bal (bal (Below.refl _ _) _) _) _
  rw [← hW]
  clear hW
  generalize hx0 : w.heap.size = x0 at *
  have Hx0 := Lib.hid hx0; clear hx0
  have Ht := Lib.hid ht; clear ht
  have Hz := Lib.hid hz; clear hz
  have Ho := Lib.hid (show Tri W (x0 + 1 + 1) (a.upto 0) from ho); clear ho
  have Hf := Lib.hid hf; clear hf
  have Hg := Lib.hid hg; clear hg
  go_loopw [4] (fun i wr => ∃ n : Nat, i = .int .i64 n ∧ 0 ≤ n ∧ n ≤ 3 ∧ Hid (Tri wr x0 a) ∧ Hid (Tri wr (x0 + 1) zTri) ∧ Hid (Tri wr (x0 + 1 + 1) (a.upto n)) ∧ Hid (∀ i, wr.frozen? ⟨x0 + 1 + 1, i, none⟩ = false) ∧ Hid (∀ i, wr.frozen? ⟨x0 + 1, i, none⟩ = false) ∧ Below x0 w wr) (fun i _ => 3 - (intOf i).toNat)
  case atStart => exact ⟨0, rfl, by omega, by omega, Ht, Hz, Ho, Hf, Hg, hb⟩
  case round =>
    clear Ht Hz Ho Hf Hg hb
    obtain ⟨n, rfl, n0, n3, Ht, Hz, Ho, Hf, Hg, hb⟩ := hrel
    rcases (show n = 0 ∨ n = 1 ∨ n = 2 ∨ n = 3 by omega) with rfl | rfl | rfl | rfl
    · obtain ⟨p0, p1, p2⟩ : wr.cell? ⟨x0, 0, none⟩ = some (.int .i64 a.a) ∧ wr.cell? ⟨x0, 1, none⟩ = some (.int .i64 a.b) ∧ wr.cell? ⟨x0, 2, none⟩ = some (.int .i64 a.c) := Ht.out
      obtain ⟨q0, q1, q2⟩ : wr.cell? ⟨x0 + 1 + 1, 0, none⟩ = some (.int .i64 (a.upto 0).a) ∧ wr.cell? ⟨x0 + 1 + 1, 1, none⟩ = some (.int .i64 (a.upto 0).b) ∧ wr.cell? ⟨x0 + 1 + 1, 2, none⟩ = some (.int .i64 (a.upto 0).c) := Ho.out
      have f0 : wr.frozen? ⟨x0 + 1 + 1, 0, none⟩ = false := Hf.out _
      have hn : Tri (wr.setCell ⟨x0 + 1 + 1, 0, none⟩ (.int .i64 a.a)) (x0 + 1 + 1) (a.upto 1) := by
        refine ⟨?_, ?_, ?_⟩
        · exact cset_eq _ _ _ _ q0
        · exact (cset_ne _ _ _ _ _ (by decide)).trans (q1.trans (by simp [GTri.upto]))
        · exact (cset_ne _ _ _ _ _ (by decide)).trans (q2.trans (by simp [GTri.upto]))
      have Hn := Lib.hid hn; clear hn
      have ht : Tri (wr.setCell ⟨x0 + 1 + 1, 0, none⟩ (.int .i64 a.a)) x0 a := Cells.tri (Ht.out.cells.far (by dsimp only; omega) _)
      have hz : Tri (wr.setCell ⟨x0 + 1 + 1, 0, none⟩ (.int .i64 a.a)) (x0 + 1) zTri := Cells.tri (Hz.out.cells.far (by dsimp only; omega) _)
      have HT := Lib.hid ht; clear ht
      have HZ := Lib.hid hz; clear hz
      have hfn : ∀ i, (wr.setCell ⟨x0 + 1 + 1, 0, none⟩ (.int .i64 a.a)).frozen? ⟨x0 + 1 + 1, i, none⟩ = false := fun i => (frozen_setCell _ _ _ _).trans (Hf.out i)
      have HFN := Lib.hid hfn; clear hfn
      have hgn : ∀ i, (wr.setCell ⟨x0 + 1 + 1, 0, none⟩ (.int .i64 a.a)).frozen? ⟨x0 + 1, i, none⟩ = false := fun i => (frozen_setCell _ _ _ _).trans (Hg.out i)
      have HGN := Lib.hid hgn; clear hgn
      have hbn : Below x0 w (wr.setCell ⟨x0 + 1 + 1, 0, none⟩ (.int .i64 a.a)) := hb.setCell (by show x0 ≤ x0 + 1 + 1; omega) _
      have HBN := Lib.hid hbn; clear hbn
      clear Ht Ho Hz Hf Hg hb
      go_wp2
      go_roundw
      case rel => exact ⟨1, rfl, by omega, by omega, HT, HZ, Hn, HFN, HGN, HBN.out⟩
      case measure => simp [intOf]
    · obtain ⟨p0, p1, p2⟩ : wr.cell? ⟨x0, 0, none⟩ = some (.int .i64 a.a) ∧ wr.cell? ⟨x0, 1, none⟩ = some (.int .i64 a.b) ∧ wr.cell? ⟨x0, 2, none⟩ = some (.int .i64 a.c) := Ht.out
      obtain ⟨q0, q1, q2⟩ : wr.cell? ⟨x0 + 1 + 1, 0, none⟩ = some (.int .i64 (a.upto 1).a) ∧ wr.cell? ⟨x0 + 1 + 1, 1, none⟩ = some (.int .i64 (a.upto 1).b) ∧ wr.cell? ⟨x0 + 1 + 1, 2, none⟩ = some (.int .i64 (a.upto 1).c) := Ho.out
      have f0 : wr.frozen? ⟨x0 + 1 + 1, 1, none⟩ = false := Hf.out _
      have hn : Tri (wr.setCell ⟨x0 + 1 + 1, 1, none⟩ (.int .i64 a.b)) (x0 + 1 + 1) (a.upto 2) := by
        refine ⟨?_, ?_, ?_⟩
        · exact (cset_ne _ _ _ _ _ (by decide)).trans (q0.trans (by simp [GTri.upto]))
        · exact cset_eq _ _ _ _ q1
        · exact (cset_ne _ _ _ _ _ (by decide)).trans (q2.trans (by simp [GTri.upto]))
      have Hn := Lib.hid hn; clear hn
      have ht : Tri (wr.setCell ⟨x0 + 1 + 1, 1, none⟩ (.int .i64 a.b)) x0 a := Cells.tri (Ht.out.cells.far (by dsimp only; omega) _)
      have hz : Tri (wr.setCell ⟨x0 + 1 + 1, 1, none⟩ (.int .i64 a.b)) (x0 + 1) zTri := Cells.tri (Hz.out.cells.far (by dsimp only; omega) _)
      have HT := Lib.hid ht; clear ht
      have HZ := Lib.hid hz; clear hz
      have hfn : ∀ i, (wr.setCell ⟨x0 + 1 + 1, 1, none⟩ (.int .i64 a.b)).frozen? ⟨x0 + 1 + 1, i, none⟩ = false := fun i => (frozen_setCell _ _ _ _).trans (Hf.out i)
      have HFN := Lib.hid hfn; clear hfn
      have hgn : ∀ i, (wr.setCell ⟨x0 + 1 + 1, 1, none⟩ (.int .i64 a.b)).frozen? ⟨x0 + 1, i, none⟩ = false := fun i => (frozen_setCell _ _ _ _).trans (Hg.out i)
      have HGN := Lib.hid hgn; clear hgn
      have hbn : Below x0 w (wr.setCell ⟨x0 + 1 + 1, 1, none⟩ (.int .i64 a.b)) := hb.setCell (by show x0 ≤ x0 + 1 + 1; omega) _
      have HBN := Lib.hid hbn; clear hbn
      clear Ht Ho Hz Hf Hg hb
      go_wp2
      go_roundw
      case rel => exact ⟨2, rfl, by omega, by omega, HT, HZ, Hn, HFN, HGN, HBN.out⟩
      case measure => simp [intOf]
    · obtain ⟨p0, p1, p2⟩ : wr.cell? ⟨x0, 0, none⟩ = some (.int .i64 a.a) ∧ wr.cell? ⟨x0, 1, none⟩ = some (.int .i64 a.b) ∧ wr.cell? ⟨x0, 2, none⟩ = some (.int .i64 a.c) := Ht.out
      obtain ⟨q0, q1, q2⟩ : wr.cell? ⟨x0 + 1 + 1, 0, none⟩ = some (.int .i64 (a.upto 2).a) ∧ wr.cell? ⟨x0 + 1 + 1, 1, none⟩ = some (.int .i64 (a.upto 2).b) ∧ wr.cell? ⟨x0 + 1 + 1, 2, none⟩ = some (.int .i64 (a.upto 2).c) := Ho.out
      have f0 : wr.frozen? ⟨x0 + 1 + 1, 2, none⟩ = false := Hf.out _
      have hn : Tri (wr.setCell ⟨x0 + 1 + 1, 2, none⟩ (.int .i64 a.c)) (x0 + 1 + 1) (a.upto 3) := by
        refine ⟨?_, ?_, ?_⟩
        · exact (cset_ne _ _ _ _ _ (by decide)).trans (q0.trans (by simp [GTri.upto]))
        · exact (cset_ne _ _ _ _ _ (by decide)).trans (q1.trans (by simp [GTri.upto]))
        · exact cset_eq _ _ _ _ q2
      have Hn := Lib.hid hn; clear hn
      have ht : Tri (wr.setCell ⟨x0 + 1 + 1, 2, none⟩ (.int .i64 a.c)) x0 a := Cells.tri (Ht.out.cells.far (by dsimp only; omega) _)
      have hz : Tri (wr.setCell ⟨x0 + 1 + 1, 2, none⟩ (.int .i64 a.c)) (x0 + 1) zTri := Cells.tri (Hz.out.cells.far (by dsimp only; omega) _)
      have HT := Lib.hid ht; clear ht
      have HZ := Lib.hid hz; clear hz
      have hfn : ∀ i, (wr.setCell ⟨x0 + 1 + 1, 2, none⟩ (.int .i64 a.c)).frozen? ⟨x0 + 1 + 1, i, none⟩ = false := fun i => (frozen_setCell _ _ _ _).trans (Hf.out i)
      have HFN := Lib.hid hfn; clear hfn
      have hgn : ∀ i, (wr.setCell ⟨x0 + 1 + 1, 2, none⟩ (.int .i64 a.c)).frozen? ⟨x0 + 1, i, none⟩ = false := fun i => (frozen_setCell _ _ _ _).trans (Hg.out i)
      have HGN := Lib.hid hgn; clear hgn
      have hbn : Below x0 w (wr.setCell ⟨x0 + 1 + 1, 2, none⟩ (.int .i64 a.c)) := hb.setCell (by show x0 ≤ x0 + 1 + 1; omega) _
      have HBN := Lib.hid hbn; clear hbn
      clear Ht Ho Hz Hf Hg hb
      go_wp2
      go_roundw
      case rel => exact ⟨3, rfl, by omega, by omega, HT, HZ, Hn, HFN, HGN, HBN.out⟩
      case measure => simp [intOf]
    · obtain ⟨q0, q1, q2⟩ : wr.cell? ⟨x0 + 1 + 1, 0, none⟩ = some (.int .i64 a.a) ∧ wr.cell? ⟨x0 + 1 + 1, 1, none⟩ = some (.int .i64 a.b) ∧ wr.cell? ⟨x0 + 1 + 1, 2, none⟩ = some (.int .i64 a.c) := Ho.out
      obtain ⟨z0, z1, z2⟩ : wr.cell? ⟨x0 + 1, 0, none⟩ = some (.int .i64 0) ∧ wr.cell? ⟨x0 + 1, 1, none⟩ = some (.int .i64 0) ∧ wr.cell? ⟨x0 + 1, 2, none⟩ = some (.int .i64 0) := Hz.out
      have g0 : wr.frozen? ⟨x0 + 1, 0, none⟩ = false := Hg.out _
      have g1 : wr.frozen? ⟨x0 + 1, 1, none⟩ = false := Hg.out _
      have g2 : wr.frozen? ⟨x0 + 1, 2, none⟩ = false := Hg.out _
      clear Ht Ho Hz Hf Hg
      go_wp2
      refine bodyPost_ret (v := .agg #[.int .i64 a.a, .int .i64 a.b, .int .i64 a.c]) (by simp [results, Tryz.results28, go_sem, *]) rfl ⟨rfl, ?_⟩
      rw [Hx0.out]
      repeat' first | exact hb | refine Below.setCell ?_ (by show x0 ≤ x0 + 1; omega) _

set_option maxRecDepth 100000 in
theorem eqIntA3_any (a b : GTri) (w : World) : Calls Tryz.prog 37 #[.agg #[.int .i64 a.a, .int .i64 a.b, .int .i64 a.c], .agg #[.int .i64 b.a, .int .i64 b.b, .int .i64 b.c]] w (IsBB (a = b) w) := by
  go_enter Tryz.func37, Tryz.ntmps37
  go_wp2_with fail
  obtain ⟨W, hW⟩ : ∃ W, W = (w.alloc (.cells #[.int .i64 a.a, .int .i64 a.b, .int .i64 a.c] 24)).alloc (.cells #[.int .i64 b.a, .int .i64 b.b, .int .i64 b.c] 24) := ⟨_, rfl⟩
  have ht : Tri W w.heap.size a := by
    rw [hW]
    exact (Tri.new w a _).below (bal (Below.refl _ _) _) (by simp)
  have hz : Tri W (w.heap.size + 1) b := by
    rw [hW]
    have := Tri.new (w.alloc (.cells #[.int .i64 a.a, .int .i64 a.b, .int .i64 a.c] 24)) b 24
    simpa using this
  have hb : Below w.heap.size w W := by rw [hW]; exact bal (bal (Below.refl _ _) _) _
  have hs : w.heap.size + 2 ≤ W.heap.size := by rw [hW]; simp
  rw [← hW]
  clear hW
  have hB : ∀ wr, Below W.heap.size W wr → Below w.heap.size w wr := fun wr h => hb.trans (h.mono (by omega))
  have Hc : Hid (∀ wr, Below W.heap.size W wr → Tri wr w.heap.size a ∧ Tri wr (w.heap.size + 1) b) := Lib.hid (fun wr h => ⟨ht.below h (by omega), hz.below h (by omega)⟩)
  clear ht hz hs
  have HB := Lib.hid hB; clear hB hb
  generalize hx0 : w.heap.size = x0 at *
  have Hx0 := Lib.hid hx0; clear hx0
  go_loopw [5] (fun i wr => ∃ n : Nat, i = .int .i64 n ∧ n ≤ 3 ∧ Hid (∀ j : Nat, j < n → [a.a, a.b, a.c][j]? = [b.a, b.b, b.c][j]?) ∧ Below W.heap.size W wr) (fun i _ => 3 - (intOf i).toNat)
  case atStart => exact ⟨0, rfl, by omega, Lib.hid (fun j h => by omega), Below.refl _ _⟩
  case round =>
    obtain ⟨n, rfl, n3, He, hb0⟩ := hrel
    obtain ⟨⟨p0, p1, p2⟩, q0, q1, q2⟩ := Hc.out wr hb0
    have hb := HB.out wr hb0
    clear Hc HB
    rcases (show n = 0 ∨ n = 1 ∨ n = 2 ∨ n = 3 by omega) with rfl | rfl | rfl | rfl
    · by_cases he : a.a = b.a
      · have d0 : (a.a != b.a) = false := by simpa using he
        have d1 : (a.a == b.a) = true := by simpa using he
        have HE : Hid (∀ j : Nat, j < 1 → [a.a, a.b, a.c][j]? = [b.a, b.b, b.c][j]?) := Lib.hid (fun j hj => by
          by_cases hjn : j < 0
          · exact He.out j hjn
          · obtain rfl : j = 0 := by omega
            simp [he])
        clear he He
        go_wp2_with fail
        go_quiet (fail)
        go_wp2
        go_roundw
        case rel => exact ⟨1, rfl, by omega, HE, bdrewB hb0 _⟩
        case measure => simp [intOf]
      · have d0 : (a.a != b.a) = true := by simpa using he
        have d1 : (a.a == b.a) = false := by simpa using he
        have Hn : Hid (¬ a = b) := Lib.hid (fun h => he (by rw [h]))
        clear he He
        go_wp2_with fail
        go_quiet (fail)
        go_wp2
        go_ret
        exact ⟨false, by simp [Hn.out], rfl, by rw [Hx0.out]; exact bdrewB hb _⟩
    · by_cases he : a.b = b.b
      · have d0 : (a.b != b.b) = false := by simpa using he
        have d1 : (a.b == b.b) = true := by simpa using he
        have HE : Hid (∀ j : Nat, j < 2 → [a.a, a.b, a.c][j]? = [b.a, b.b, b.c][j]?) := Lib.hid (fun j hj => by
          by_cases hjn : j < 1
          · exact He.out j hjn
          · obtain rfl : j = 1 := by omega
            simp [he])
        clear he He
        go_wp2_with fail
        go_quiet (fail)
        go_wp2
        go_roundw
        case rel => exact ⟨2, rfl, by omega, HE, bdrewB hb0 _⟩
        case measure => simp [intOf]
      · have d0 : (a.b != b.b) = true := by simpa using he
        have d1 : (a.b == b.b) = false := by simpa using he
        have Hn : Hid (¬ a = b) := Lib.hid (fun h => he (by rw [h]))
        clear he He
        go_wp2_with fail
        go_quiet (fail)
        go_wp2
        go_ret
        exact ⟨false, by simp [Hn.out], rfl, by rw [Hx0.out]; exact bdrewB hb _⟩
    · by_cases he : a.c = b.c
      · have d0 : (a.c != b.c) = false := by simpa using he
        have d1 : (a.c == b.c) = true := by simpa using he
        have HE : Hid (∀ j : Nat, j < 3 → [a.a, a.b, a.c][j]? = [b.a, b.b, b.c][j]?) := Lib.hid (fun j hj => by
          by_cases hjn : j < 2
          · exact He.out j hjn
          · obtain rfl : j = 2 := by omega
            simp [he])
        clear he He
        go_wp2_with fail
        go_quiet (fail)
        go_wp2
        go_roundw
        case rel => exact ⟨3, rfl, by omega, HE, bdrewB hb0 _⟩
        case measure => simp [intOf]
      · have d0 : (a.c != b.c) = true := by simpa using he
        have d1 : (a.c == b.c) = false := by simpa using he
        have Hn : Hid (¬ a = b) := Lib.hid (fun h => he (by rw [h]))
        clear he He
        go_wp2_with fail
        go_quiet (fail)
        go_wp2
        go_ret
        exact ⟨false, by simp [Hn.out], rfl, by rw [Hx0.out]; exact bdrewB hb _⟩
    · have Hy : Hid (a = b) := Lib.hid (by
        have h0 := He.out 0 (by omega)
        have h1 := He.out 1 (by omega)
        have h2 := He.out 2 (by omega)
        obtain ⟨a0, a1, a2⟩ := a
        obtain ⟨b0, b1, b2⟩ := b
        simp at h0 h1 h2
        simp [h0, h1, h2])
      clear He p0 p1 p2 q0 q1 q2
      go_wp2
      go_ret
      exact ⟨true, by simp [Hy.out], rfl, by rw [Hx0.out]; exact hb⟩

end Go.Proofs.YtpfanmcjlfdaiaaGreatDoorR

/- Contracts of the laws' marking helpers on slices of Entrys: mark writes its marks into every element, held finds them there. -/
namespace Go.Proofs.YtpfanmcjlfdaiaaGreatDoorR
open Go.ChangeShapes Go.WideShapes Go.ChangeAt Go.RowKit Go.Deep Go.Joins
set_option linter.unusedVariables false

def mkEnt (k : Int) : GEnt := ⟨k, k + 1, k + 2, mtx (k + 3)⟩

def marksEnt (k : Int) (n : Nat) : List GEnt := (List.range n).map fun i : Nat => mkEnt (k + 4 * (i : Int))

theorem length_marksEnt (k : Int) (n : Nat) : (marksEnt k n).length = n := by simp [marksEnt]

theorem marksEnt_succ (k : Int) (n : Nat) : marksEnt k (n + 1) = marksEnt k n ++ [mkEnt (k + 4 * (n : Int))] := by simp [marksEnt, List.range_succ]

theorem marksEnt_at (k : Int) (n i : Nat) (h : i < (marksEnt k n).length) : (marksEnt k n)[i] = mkEnt (k + 4 * (i : Int)) := by simp [marksEnt]

set_option maxRecDepth 100000 in
theorem markEntryS_any (A : Option Addr) (c : Nat) (k : Int) (xs : List GEnt) (B : Nat) (w : World) (h : EntsAt w B A xs) (hf : Free w A) (hB : B ≤ w.heap.size) (hl : xs.length ≤ 16777216) (hk0 : 0 ≤ k) (hk : k ≤ 67108864) :
    Calls Tryz.prog 38 #[.slice A xs.length c, .int .i64 k] w fun e w' => e = .returned (.int .i64 (k + 4 * xs.length)) ∧ EntsAt w' B A (marksEnt k xs.length) ∧ w.grownBy w' (blk A) ∧ Free w' A := by
  have H := Lib.hid h; clear h
  have Hf := Lib.hid hf; clear hf
  go_enter Tryz.func38, Tryz.ntmps38
  go_wp2_with fail
  go_loopw [1, 5] (fun t i wr => ∃ j : Nat, j ≤ xs.length ∧ i = .int .i64 j ∧ t = .int .i64 (k + 4 * j) ∧ Hid (EntsAt wr B A (marksEnt k j ++ xs.drop j)) ∧ w.grownBy wr (blk A) ∧ Hid (Free wr A)) (fun _ i _ => xs.length - (intOf i).toNat)
  case atStart => exact ⟨0, by omega, rfl, by simp, Lib.hid (by simpa [marksEnt] using H.out), World.grownBy.refl _ _, Hf⟩
  case round =>
    obtain ⟨j, hj, rfl, rfl, Hr, hg, Hfr⟩ := hrel
    by_cases hlt : j < xs.length
    · have hjl : j < (marksEnt k j ++ xs.drop j).length := by simp [length_marksEnt]; omega
      obtain ⟨b, off, rfl, hb, p0, p1, p2, p3⟩ := EntsAt.one Hr.out hjl
      have hbs : b < wr.heap.size := by have := hg.size; omega
      obtain ⟨v0, q0⟩ : ∃ v, wr.cell? ⟨b, off + j * 4, none⟩ = some v := ⟨_, p0⟩
      obtain ⟨v1, q1⟩ : ∃ v, wr.cell? ⟨b, off + j * 4 + 1, none⟩ = some v := ⟨_, p1⟩
      obtain ⟨v2, q2⟩ : ∃ v, wr.cell? ⟨b, off + j * 4 + 2, none⟩ = some v := ⟨_, p2⟩
      obtain ⟨v3, q3⟩ : ∃ v, wr.cell? ⟨b, off + j * 4 + 3, none⟩ = some v := ⟨_, p3⟩
      clear p0 p1 p2 p3
      have fz : ∀ i, wr.frozen? ⟨b, i, none⟩ = false := Hfr.out b rfl
      have Fz := Lib.hid fz; clear fz
      have f0 : wr.frozen? ⟨b, off + j * 4, none⟩ = false := Fz.out _
      have f1 : wr.frozen? ⟨b, off + j * 4 + 1, none⟩ = false := Fz.out _
      have f2 : wr.frozen? ⟨b, off + j * 4 + 2, none⟩ = false := Fz.out _
      go_wp2_with fail
      obtain ⟨w2, hw2⟩ : ∃ w2, w2 = (((wr.setCell ⟨b, off + j * 4, none⟩ (.int .i64 (k + 4 * (j : Int)))).setCell ⟨b, off + j * 4 + 1, none⟩ (.int .i64 (k + 4 * (j : Int) + 1))).setCell ⟨b, off + j * 4 + 2, none⟩ (.int .i64 (k + 4 * (j : Int) + 2))) := ⟨_, rfl⟩
      have d0 : w2.cell? ⟨b, off + j * 4, none⟩ = some (.int .i64 (k + 4 * (j : Int))) := by rw [hw2]; exact (cset_ne _ _ _ _ _ (by omega)).trans ((cset_ne _ _ _ _ _ (by omega)).trans (cset_eq _ _ _ _ q0))
      have d1 : w2.cell? ⟨b, off + j * 4 + 1, none⟩ = some (.int .i64 (k + 4 * (j : Int) + 1)) := by rw [hw2]; exact (cset_ne _ _ _ _ _ (by omega)).trans (cset_eq _ _ _ _ ((cset_ne _ _ _ _ _ (by omega)).trans q1))
      have d2 : w2.cell? ⟨b, off + j * 4 + 2, none⟩ = some (.int .i64 (k + 4 * (j : Int) + 2)) := by rw [hw2]; exact cset_eq _ _ _ _ ((cset_ne _ _ _ _ _ (by omega)).trans ((cset_ne _ _ _ _ _ (by omega)).trans q2))
      have dO : ∀ i, i ≠ off + j * 4 → i ≠ off + j * 4 + 1 → i ≠ off + j * 4 + 2 → w2.cell? ⟨b, i, none⟩ = wr.cell? ⟨b, i, none⟩ := fun i g0 g1 g2 => by rw [hw2, cset_ne _ _ _ _ _ (by omega), cset_ne _ _ _ _ _ (by omega), cset_ne _ _ _ _ _ (by omega)]
      have dF : ∀ i, w2.frozen? ⟨b, i, none⟩ = false := fun i => by rw [hw2, frozen_setCell, frozen_setCell, frozen_setCell]; exact Fz.out i
      have dG : w.grownBy w2 (some b) := by rw [hw2]; exact (grown_setCell (row := some b) (grown_setCell (row := some b) (grown_setCell (row := some b) hg ⟨b, _, none⟩ (.inl rfl) _) ⟨b, _, none⟩ (.inl rfl) _) ⟨b, _, none⟩ (.inl rfl) _)
      try simp only [show k + 4 * (j : Int) + 1 + 1 = k + 4 * (j : Int) + 2 from by omega, show k + 4 * (j : Int) + 2 + 1 = k + 4 * (j : Int) + 3 from by omega]
      rw [← hw2]
      clear hw2 f0 f1 f2
      have DO := Lib.hid dO; clear dO
      have DF := Lib.hid dF; clear dF
      have D0 := Lib.hid d0; clear d0
      have D1 := Lib.hid d1; clear d1
      have D2 := Lib.hid d2; clear d2
      have hb2s : b < w2.heap.size := by have := dG.size; omega
      try rw [show k + 4 * (j : Int) + 1 + 1 + 1 = k + 4 * (j : Int) + 3 from by omega]
      refine (markText_any _ _ (by omega)).mono ?_
      rintro e w3 ⟨rfl, hb3⟩
      have c3 : w3.cell? ⟨b, off + j * 4 + 3, none⟩ = some v3 := (hb3.cell hb2s).trans ((DO.out _ (by omega) (by omega) (by omega)).trans q3)
      have f3 : w3.frozen? ⟨b, off + j * 4 + 3, none⟩ = false := (hb3.frozen hb2s).trans (DF.out _)
      have hn : EntsAt (w3.setCell ⟨b, off + j * 4 + 3, none⟩ (.string (mtx (k + 4 * (j : Int) + 3)))) B (some ⟨b, off, none⟩) (marksEnt k (j + 1) ++ xs.drop (j + 1)) := by
        rw [marksEnt_succ, ← set_mid (marksEnt k j) xs j (mkEnt (k + 4 * (j : Int))) (length_marksEnt k j) hlt]
        refine Sl.set Hr.out len_Ent hjl _ ?_ ?_
        · intro i v hv
          match i, hv with
          | 0, hv =>
            simp [GEnt.vals, mkEnt] at hv; subst hv
            rw [cset_ne _ _ _ _ _ (by omega)]; exact (hb3.cell hb2s).trans D0.out
          | 1, hv =>
            simp [GEnt.vals, mkEnt] at hv; subst hv
            rw [cset_ne _ _ _ _ _ (by omega)]; exact (hb3.cell hb2s).trans D1.out
          | 2, hv =>
            simp [GEnt.vals, mkEnt] at hv; subst hv
            rw [cset_ne _ _ _ _ _ (by omega)]; exact (hb3.cell hb2s).trans D2.out
          | 3, hv =>
            simp [GEnt.vals, mkEnt] at hv; subst hv
            exact cset_eq _ _ _ _ c3
          | i + 4, hv => simp [GEnt.vals] at hv
        · intro i hi
          rw [cset_ne _ _ _ _ _ (by omega)]
          exact (hb3.cell hb2s).trans (DO.out i (by omega) (by omega) (by omega))
      have Hn := Lib.hid hn; clear hn
      have hg3 : w.grownBy (w3.setCell ⟨b, off + j * 4 + 3, none⟩ (.string (mtx (k + 4 * (j : Int) + 3)))) (some b) := grown_setCell (grown_trans dG (grown_of_below hb3 _)) _ (.inl rfl) _
      have hf3 : Free (w3.setCell ⟨b, off + j * 4 + 3, none⟩ (.string (mtx (k + 4 * (j : Int) + 3)))) (some ⟨b, off, none⟩) := fun b' e i => by
        simp [blk] at e; subst e
        rw [frozen_setCell]; exact (hb3.frozen hb2s).trans (DF.out i)
      have Hf3 := Lib.hid hf3; clear hf3
      have Hg3 := Lib.hid hg3; clear hg3
      go_wp2
      go_roundw
      case rel => exact ⟨j + 1, by omega, by go_num, by go_num, Hn, Hg3.out, Hf3⟩
      case measure => simp [intOf]; omega
    · obtain rfl : j = xs.length := by omega
      have hn : EntsAt wr B A (marksEnt k xs.length) := by simpa using Hr.out
      have Hn := Lib.hid hn; clear hn
      go_wp2
      go_ret
      exact ⟨rfl, Hn.out, hg, Hfr.out⟩

set_option maxRecDepth 100000 in
theorem heldEntryS_any (A : Option Addr) (c n : Nat) (k : Int) (B : Nat) (w : World) (h : EntsAt w B A (marksEnt k n)) (hB : B ≤ w.heap.size) (hl : n ≤ 16777216) (hk0 : 0 ≤ k) (hk : k ≤ 67108864) :
    Calls Tryz.prog 40 #[.slice A n c, .int .i64 k] w fun e w' => e = .returned (.int .i64 (k + 4 * n)) ∧ Below w.heap.size w w' := by
  have H := Lib.hid h; clear h
  go_enter Tryz.func40, Tryz.ntmps40
  go_wp2_with fail
  go_loopw [1, 5] (fun t i wr => ∃ j : Nat, j ≤ n ∧ i = .int .i64 j ∧ t = .int .i64 (k + 4 * j) ∧ Below w.heap.size w wr) (fun _ i _ => n - (intOf i).toNat)
  case atStart => exact ⟨0, by omega, rfl, by simp, Below.refl _ _⟩
  case round =>
    obtain ⟨j, hj, rfl, rfl, hb⟩ := hrel
    by_cases hlt : j < n
    · have hjl : j < (marksEnt k n).length := by rw [length_marksEnt]; exact hlt
      obtain ⟨b, off, rfl, hbB, p0, p1, p2, p3⟩ := EntsAt.one (Sl.below H.out hb hB) hjl
      rw [marksEnt_at] at p0 p1 p2 p3
      simp only [mkEnt] at p0 p1 p2 p3
      have hbs : b < wr.heap.size := by have := hb.size; omega
      go_wp2_with fail
      go_region_held3 (fun w' => w'.cell? ⟨b, off + j * 4 + 3, none⟩ = some (.string (mtx (k + 4 * (j : Int) + 3)))) (first | go_keep | (rw [hb2.cell (by simpa using hbs)]; simpa using p3))
        (first | (go_at_call 71; rw [show k + 4 * (j : Int) + 1 + 1 + 1 = k + 4 * (j : Int) + 3 from by omega]; refine (markText_any _ _ (by omega)).mono ?_; rintro e w2 ⟨rfl, hb2⟩))
      have hbd : Below wr.heap.size wr w2 := (Below.refl _ _).drew.trans hb2
      have hbw2 : Below w.heap.size w w2 := hb.trans (hbd.mono hb.size)
      clear p0 p1 p2 p3 hb2 hbd
      go_wp2
      go_roundw
      case rel => exact ⟨j + 1, by omega, by go_num, by go_num, hbw2⟩
      case measure => simp [intOf]; omega
    · obtain rfl : j = n := by omega
      go_wp2
      go_ret
      exact ⟨rfl, hb⟩

end Go.Proofs.YtpfanmcjlfdaiaaGreatDoorR

/- Words for slices of Tombs in memory, and contracts of the laws' own helpers on them (eq, sz, to). -/
namespace Go.Proofs.YtpfanmcjlfdaiaaGreatDoorR
open Go.ChangeShapes Go.WideShapes Go.ChangeAt Go.RowKit Go.Deep Go.Joins
set_option linter.unusedVariables false
set_option linter.unusedSimpArgs false

structure GTmb where
  seq : Int
  key : ByteArray
deriving DecidableEq

def GTmb.vals (o : GTmb) : List Value := [.int .i64 o.seq, .string o.key]

def GTmb.fit (o : GTmb) : Prop := I64 o.seq ∧ o.key.size ≤ maxLen

def GTmb.small (o : GTmb) : Prop := o.key.size ≤ 1048576

def zTmb : GTmb := ⟨0, ⟨#[]⟩⟩

/-- a slice of them -/
def TmbsAt (w : World) (B : Nat) (A : Option Addr) (xs : List GTmb) : Prop := Sl GTmb.vals 2 w B A xs

theorem TmbsAt.one {w : World} {B : Nat} {A : Option Addr} {xs : List GTmb} (h : TmbsAt w B A xs) {k : Nat} (hk : k < xs.length) :
    ∃ b off, A = some ⟨b, off, none⟩ ∧ b < B ∧ w.cell? ⟨b, off + k * 2, none⟩ = some (.int .i64 xs[k].seq) ∧ w.cell? ⟨b, off + k * 2 + 1, none⟩ = some (.string xs[k].key) := by
  obtain ⟨b, off, e, hb, hc⟩ := Sl.at_ h hk
  exact ⟨b, off, e, hb, hc 0 _ rfl, hc 1 _ rfl⟩

theorem len_Tmb (o : GTmb) : o.vals.length = 2 := rfl

theorem eqTomb_any (a b : GTmb) (w : World) : Calls Tryz.prog 70 #[.agg #[.int .i64 a.seq, .string a.key], .agg #[.int .i64 b.seq, .string b.key]] w (IsBB (a = b) w) := by
  obtain ⟨a0, a1⟩ := a
  obtain ⟨b0, b1⟩ := b
  dsimp only
  by_cases g1 : a1 = b1
  · subst g1
    go_enter Tryz.func70, Tryz.ntmps70
    go_wp2
    all_goals go_ret
    all_goals refine ⟨_, ?_, rfl, bal (bal (Below.refl _ _) _) _⟩
    all_goals simp_all
  · have e1 := ne_list g1
    go_enter Tryz.func70, Tryz.ntmps70
    go_wp2
    all_goals go_ret
    all_goals refine ⟨_, ?_, rfl, bal (bal (Below.refl _ _) _) _⟩
    all_goals simp_all

set_option maxRecDepth 100000 in
theorem eqTombS_any (A1 A2 : Option Addr) (c1 c2 : Nat) (xs ys : List GTmb) (B : Nat) (w : World) (h1 : TmbsAt w B A1 xs) (h2 : TmbsAt w B A2 ys) (hB : B ≤ w.heap.size) (hl : xs.length ≤ 4611686018427387904) (hl2 : ys.length ≤ 4611686018427387904) :
    Calls Tryz.prog 36 #[.slice A1 xs.length c1, .slice A2 ys.length c2] w (IsBB (xs = ys) w) := by
  by_cases hlen : xs.length = ys.length
  · have hd : ((xs.length : Int) != (ys.length : Int)) = false := by simp; omega
    have hd2 : ((xs.length : Int) == (ys.length : Int)) = true := by simp; omega
    have Hlen := Lib.hid hlen; clear hlen
    have H1 := Lib.hid h1; clear h1
    have H2 := Lib.hid h2; clear h2
    go_enter Tryz.func36, Tryz.ntmps36
    go_wp2_with fail
    go_loopw [5] (fun i wr => ∃ k : Nat, k ≤ xs.length ∧ i = .int .i64 k ∧ Hid (xs.take k = ys.take k) ∧ Below w.heap.size w wr) (fun i _ => xs.length - (intOf i).toNat)
    case atStart => exact ⟨0, by omega, rfl, Lib.hid (by simp), Below.refl _ _⟩
    case round =>
      obtain ⟨k, hk, rfl, H, hb⟩ := hrel
      by_cases hlt : k < xs.length
      · have hy : k < ys.length := by have := Hlen.out; omega
        obtain ⟨b1, o1, rfl, hb1, p0, p1⟩ := TmbsAt.one (Sl.below H1.out hb hB) hlt
        obtain ⟨b2, o2, rfl, hb2, q0, q1⟩ := TmbsAt.one (Sl.below H2.out hb hB) hy
        go_wp2_with fail
        go_still_tail 8, (by kernel_rfl)
        have hb' := hb.drew
        change wpList _ _ _ _ _ wr.drew
        generalize wr.drew = w2 at hb' ⊢
        clear p0 p1 q0 q1
        go_wp2_with fail
        refine (eqTomb_any xs[k] ys[k] w2).mono ?_
        rintro e w3 ⟨be, hbe, rfl, hb3⟩
        have hb4 : Below w.heap.size w w3 := hb'.trans (hb3.mono hb'.size)
        cases be
        · have he : ¬ xs[k] = ys[k] := fun h => by have := hbe.2 h; cases this
          have hn : ¬ (xs = ys) := fun h => he (by simp [h])
          have Hn := Lib.hid hn; clear hn he hbe
          go_wp2
          go_ret
          exact ⟨false, by simp [Hn.out], rfl, hb4⟩
        · have he : xs[k] = ys[k] := hbe.1 rfl
          have hn : xs.take (k + 1) = ys.take (k + 1) := by
            rw [List.take_succ_eq_append_getElem hlt, List.take_succ_eq_append_getElem hy, H.out, he]
          have Hn := Lib.hid hn; clear hn he hbe
          go_wp2
          go_roundw
          case rel => exact ⟨k + 1, by omega, by go_num, Hn, hb4⟩
          case measure => simp [intOf]; omega
      · have hyes : xs = ys := by
          have h1 := H.out
          have h2 := Hlen.out
          rw [List.take_of_length_le (by omega), List.take_of_length_le (by omega)] at h1
          exact h1
        have Hy := Lib.hid hyes; clear hyes
        go_wp2
        go_ret
        exact ⟨true, by simp [Hy.out], rfl, hb⟩
  · have hd : ((xs.length : Int) != (ys.length : Int)) = true := by simp; omega
    have hd2 : ((xs.length : Int) == (ys.length : Int)) = false := by simp; omega
    have hno : ¬ (xs = ys) := fun h => hlen (by rw [h])
    have Hno := Lib.hid hno; clear hno hlen h1 h2
    go_enter Tryz.func36, Tryz.ntmps36
    go_wp2
    go_ret
    exact ⟨false, by simp [Hno.out], rfl, Below.refl _ _⟩

theorem szTomb_any (o : GTmb) (left : Int) (w : World) (ho : o.fit) (h0 : 0 ≤ left) (h1 : left ≤ 1048576) :
    Calls Tryz.prog 53 #[.agg #[.int .i64 o.seq, .string o.key], .int .i64 left] w (Left o.small left w) := by
  have ok : o.key.size ≤ maxLen := by unfold GTmb.fit at ho; simp_all
  unfold maxLen at ok
  clear ho
  by_cases c1 : left - (o.key.size : Int) < 0
  · have d1 : decide (left - (o.key.size : Int) < 0) = true := by simpa using c1
    go_enter Tryz.func53, Tryz.ntmps53
    go_wp2
    go_ret
    exact ⟨-1, fun h => by omega, by omega, by omega, rfl, (Below.refl _ _).alloc (Nat.le_refl _) _⟩
  · have d1 : decide (left - (o.key.size : Int) < 0) = false := by simpa using c1
    go_enter Tryz.func53, Tryz.ntmps53
    go_wp2
    go_ret
    exact ⟨_, fun h => ⟨by unfold GTmb.small; omega, by omega⟩, by omega, by omega, rfl, (Below.refl _ _).alloc (Nat.le_refl _) _⟩

theorem szTombS_any (A : Option Addr) (c : Nat) (xs : List GTmb) (left : Int) (B : Nat) (w : World) (h : TmbsAt w B A xs) (hB : B ≤ w.heap.size) (hf : ∀ o ∈ xs, o.fit) (hl : xs.length ≤ maxLen) (h0 : 0 ≤ left) (h1 : left ≤ 1048576) :
    Calls Tryz.prog 21 #[.slice A xs.length c, .int .i64 left] w (Left (xs.length ≤ 1048576 ∧ ∀ o ∈ xs, o.small) left w) := by
  unfold maxLen at hl
  have H := Lib.hid h; clear h
  have Hf := Lib.hid hf; clear hf
  by_cases c1 : left - (xs.length : Int) < 0
  · have d1 : decide (left - (xs.length : Int) < 0) = true := by simpa using c1
    go_enter Tryz.func21, Tryz.ntmps21
    go_wp2
    go_ret
    exact ⟨-1, fun h => by omega, by omega, by omega, rfl, Below.refl _ _⟩
  · have d1 : decide (left - (xs.length : Int) < 0) = false := by simpa using c1
    go_enter Tryz.func21, Tryz.ntmps21
    go_wp2_with fail
    go_loopw [1, 5] (fun t i wr => ∃ (j : Nat) (v : Int), j ≤ xs.length ∧ i = .int .i64 j ∧ t = .int .i64 v ∧ 0 ≤ v ∧ v ≤ left ∧ Hid (∀ o ∈ xs.take j, o.small) ∧ Below w.heap.size w wr) (fun _ i _ => xs.length - (intOf i).toNat)
    case atStart => exact ⟨0, _, by omega, rfl, rfl, by omega, by omega, Lib.hid (by simp), Below.refl _ _⟩
    case round =>
      obtain ⟨j, v, hj, rfl, rfl, hv0, hv1, Hs, hb⟩ := hrel
      by_cases hlt : j < xs.length
      · obtain ⟨b, off, rfl, hbB, p0, p1⟩ := TmbsAt.one (Sl.below H.out hb hB) hlt
        have hfit : xs[j].fit := Hf.out _ (List.getElem_mem hlt)
        have Hfit := Lib.hid hfit; clear hfit
        go_wp2_with fail
        refine (szTomb_any xs[j] v wr Hfit.out hv0 (by omega)).mono ?_
        rintro e w1 ⟨u, hu, hu1, hu2, rfl, hb1⟩
        have hb2 : Below w.heap.size w w1 := hb.trans (hb1.mono hb.size)
        have Hu := Lib.hid hu; clear hu p0 p1
        by_cases c2 : u < 0
        · have d2 : decide (u < 0) = true := by simpa using c2
          go_wp2
          go_ret
          exact ⟨-1, fun h => by omega, by omega, by omega, rfl, hb2⟩
        · have d2 : decide (u < 0) = false := by simpa using c2
          obtain ⟨hsm, hle⟩ := Hu.out (by omega)
          have hn : ∀ o ∈ xs.take (j + 1), o.small := by
            rw [List.take_succ_eq_append_getElem hlt]
            intro o ho
            rcases List.mem_append.1 ho with ho | ho
            · exact Hs.out o ho
            · simp at ho; subst ho; exact hsm
          have Hn := Lib.hid hn; clear hn hsm
          go_wp2
          go_roundw
          case rel => exact ⟨j + 1, u, by omega, by go_num, rfl, by omega, by omega, Hn, hb2⟩
          case measure => simp [intOf]; omega
      · have hn : ∀ o ∈ xs, o.small := by have := Hs.out; rwa [List.take_of_length_le (by omega)] at this
        have Hn := Lib.hid hn; clear hn
        go_wp2
        go_ret
        exact ⟨v, fun h => ⟨⟨by omega, Hn.out⟩, by omega⟩, by omega, by omega, rfl, hb⟩

theorem toTomb_any (o : GTmb) (w : World) : Calls Tryz.prog 61 #[.agg #[.int .i64 o.seq, .string o.key]] w fun e w' => e = .returned (.agg #[.int .i64 o.seq, .string o.key]) ∧ Below w.heap.size w w' := by
  go_enter Tryz.func61, Tryz.ntmps61
  go_wp2
  refine bodyPost_ret (v := .agg #[.int .i64 o.seq, .string o.key]) (by simp [results, Tryz.results61, go_sem]) rfl ⟨rfl, ?_⟩
  repeat' first | exact Below.refl _ _ | refine bal ?_ _ | refine bset ?_ (by simp) _

theorem infoTmb : (Tryz.prog.info? 108).map (fun i => (i.zero, i.size, i.bytes)) = some (some (.agg #[.int .i64 0, .string ⟨#[]⟩]), 2, 24) := by kernel_rfl

def zeroTmbs (n : Nat) : Obj := .cells (madeCells #[.int .i64 0, .string ⟨#[]⟩] (n * 2)) 108

theorem make_tmbs (n : Nat) (hn : n ≤ 1048576) (W : World) : (Instr.makeSlice 32 (.int .i64 (n : Int)) (.int .i64 (n : Int))).run Tryz.prog W = .ok (.slice (some ⟨W.heap.size, 0, none⟩) n n) (W.alloc (zeroTmbs n)) :=
  run_make_n (P := Tryz.prog) 32 108 _ 2 24 infoTmb Tryz.underlying32 n n (Nat.le_refl _) (by omega) (by omega) W

theorem zeroTmbs_sl (n : Nat) (w : World) : TmbsAt (w.alloc (zeroTmbs n)) (w.heap.size + 1) (some ⟨w.heap.size, 0, none⟩) (List.replicate n zTmb) :=
  made_sl GTmb.vals zTmb 2 n 108 w _ rfl rfl

/-- a slice of them is answered, in new memory of its own -/
def NewTmbs (xs : List GTmb) (w : World) (e : Ending) (w' : World) : Prop :=
  ∃ (A : Option Addr) (c : Nat), e = .returned (.slice A xs.length c) ∧ TmbsAt w' w'.heap.size A xs ∧ Free w' A ∧ (∀ b, blk A = some b → w.heap.size ≤ b ∧ b < w'.heap.size) ∧ xs.length ≤ c ∧ Below w.heap.size w w'

set_option maxRecDepth 100000 in
theorem toTombS_any (A : Option Addr) (c : Nat) (xs : List GTmb) (B : Nat) (w : World) (h : TmbsAt w B A xs) (hB : B ≤ w.heap.size) (hl : xs.length ≤ 1048576) :
    Calls Tryz.prog 27 #[.slice A xs.length c] w (NewTmbs xs w) := by
  have H := Lib.hid h; clear h
  have hmk := make_tmbs xs.length hl
  go_enter Tryz.func27, Tryz.ntmps27
  go_wp2_with fail
  have hsl := zeroTmbs_sl xs.length w
  have hfr : Free (w.alloc (zeroTmbs xs.length)) (some ⟨w.heap.size, 0, none⟩) := free_alloc _ _ _ _
  have hbw : Below w.heap.size w (w.alloc (zeroTmbs xs.length)) := bal (Below.refl _ _) _
  have hsz : w.heap.size < (w.alloc (zeroTmbs xs.length)).heap.size := by simp
  generalize w.alloc (zeroTmbs xs.length) = w0 at hsl hfr hbw hsz ⊢
  clear hmk
  have Hsl := Lib.hid hsl; clear hsl
  have Hfr := Lib.hid hfr; clear hfr
  go_loopw [4] (fun i wr => ∃ j : Nat, j ≤ xs.length ∧ i = .int .i64 j ∧ Hid (TmbsAt wr (w.heap.size + 1) (some ⟨w.heap.size, 0, none⟩) (xs.take j ++ (List.replicate xs.length zTmb).drop j)) ∧ Hid (Free wr (some ⟨w.heap.size, 0, none⟩)) ∧ w.heap.size < wr.heap.size ∧ Below w.heap.size w wr) (fun i _ => xs.length - (intOf i).toNat)
  case atStart => exact ⟨0, by omega, rfl, Lib.hid (by simpa using Hsl.out), Hfr, hsz, hbw⟩
  case round =>
    clear Hsl Hfr hbw hsz
    obtain ⟨j, hj, rfl, Hr, Hf, hs, hb⟩ := hrel
    by_cases hlt : j < xs.length
    · obtain ⟨b, off, rfl, hbB, p0, p1⟩ := TmbsAt.one (Sl.below H.out hb hB) hlt
      have hjl : j < (xs.take j ++ (List.replicate xs.length zTmb).drop j).length := by simp; omega
      obtain ⟨g, o, e, hgB, q0, q1⟩ := TmbsAt.one Hr.out hjl
      injection e with e
      injection e with e1 e2
      subst e1 e2
      obtain ⟨v0, q0⟩ : ∃ v, wr.cell? ⟨w.heap.size, 0 + j * 2, none⟩ = some v := ⟨_, q0⟩
      obtain ⟨v1, q1⟩ : ∃ v, wr.cell? ⟨w.heap.size, 0 + j * 2 + 1, none⟩ = some v := ⟨_, q1⟩
      have fz : ∀ i, wr.frozen? ⟨w.heap.size, i, none⟩ = false := Hf.out _ rfl
      rw [Nat.zero_add] at q0 q1
      have Q0 := Lib.hid q0; clear q0
      have Q1 := Lib.hid q1; clear q1
      have Fz := Lib.hid fz; clear fz
      go_wp2_with fail
      refine (toTomb_any xs[j] wr).mono ?_
      rintro e w1 ⟨rfl, hb1⟩
      have c0 : w1.cell? ⟨w.heap.size, j * 2, none⟩ = some v0 := (hb1.cell hs).trans Q0.out
      have f0 : w1.frozen? ⟨w.heap.size, j * 2, none⟩ = false := (hb1.frozen hs).trans (Fz.out _)
      have c1 : w1.cell? ⟨w.heap.size, j * 2 + 1, none⟩ = some v1 := (hb1.cell hs).trans Q1.out
      have f1 : w1.frozen? ⟨w.heap.size, j * 2 + 1, none⟩ = false := (hb1.frozen hs).trans (Fz.out _)
      have hn := Sl.puts (w1 := w1) Hr.out (fun x => rfl) hjl (fun i => hb1.cell hs) xs[j]
      rw [take_set xs _ j hlt (by simpa using hlt)] at hn
      have Hn := Lib.hid hn; clear hn
      have hfn : Free (puts w1 w.heap.size (j * 2) xs[j].vals) (some ⟨w.heap.size, 0, none⟩) := Free.puts _ (fun i => (hb1.frozen hs).trans (Fz.out i))
      have Hfn := Lib.hid hfn; clear hfn
      have hsn : w.heap.size < (puts w1 w.heap.size (j * 2) xs[j].vals).heap.size := by rw [puts_size]; exact Nat.lt_of_lt_of_le hs hb1.size
      have Hsn := Lib.hid hsn; clear hsn
      have hbn : Below w.heap.size w (puts w1 w.heap.size (j * 2) xs[j].vals) := puts_below _ (Nat.le_refl _) _ _ _ (bnext hb hb1)
      have Hbn := Lib.hid hbn; clear hbn
      go_wp2
      go_roundw
      case rel => exact ⟨j + 1, by omega, by go_num, Hn, Hfn, Hsn.out, Hbn.out⟩
      case measure => simp [intOf]; omega
    · obtain rfl : j = xs.length := by omega
      have hn : TmbsAt wr (w.heap.size + 1) (some ⟨w.heap.size, 0, none⟩) xs := by simpa using Hr.out
      have Hn := Lib.hid hn; clear hn
      go_wp2
      go_ret
      exact ⟨_, _, rfl, Sl.more Hn.out hs, Hf.out, fun b e => by simp [blk] at e; subst e; exact ⟨Nat.le_refl _, hs⟩, Nat.le_refl _, hb⟩

end Go.Proofs.YtpfanmcjlfdaiaaGreatDoorR

/- Contracts of the laws' marking helpers on slices of Tombs: mark writes its marks into every element, held finds them there. -/
namespace Go.Proofs.YtpfanmcjlfdaiaaGreatDoorR
open Go.ChangeShapes Go.WideShapes Go.ChangeAt Go.RowKit Go.Deep Go.Joins
set_option linter.unusedVariables false

def mkTmb (k : Int) : GTmb := ⟨k, mtx (k + 1)⟩

def marksTmb (k : Int) (n : Nat) : List GTmb := (List.range n).map fun i : Nat => mkTmb (k + 2 * (i : Int))

theorem length_marksTmb (k : Int) (n : Nat) : (marksTmb k n).length = n := by simp [marksTmb]

theorem marksTmb_succ (k : Int) (n : Nat) : marksTmb k (n + 1) = marksTmb k n ++ [mkTmb (k + 2 * (n : Int))] := by simp [marksTmb, List.range_succ]

theorem marksTmb_at (k : Int) (n i : Nat) (h : i < (marksTmb k n).length) : (marksTmb k n)[i] = mkTmb (k + 2 * (i : Int)) := by simp [marksTmb]

set_option maxRecDepth 100000 in
theorem markTombS_any (A : Option Addr) (c : Nat) (k : Int) (xs : List GTmb) (B : Nat) (w : World) (h : TmbsAt w B A xs) (hf : Free w A) (hB : B ≤ w.heap.size) (hl : xs.length ≤ 16777216) (hk0 : 0 ≤ k) (hk : k ≤ 67108864) :
    Calls Tryz.prog 39 #[.slice A xs.length c, .int .i64 k] w fun e w' => e = .returned (.int .i64 (k + 2 * xs.length)) ∧ TmbsAt w' B A (marksTmb k xs.length) ∧ w.grownBy w' (blk A) ∧ Free w' A := by
  have H := Lib.hid h; clear h
  have Hf := Lib.hid hf; clear hf
  go_enter Tryz.func39, Tryz.ntmps39
  go_wp2_with fail
  go_loopw [1, 5] (fun t i wr => ∃ j : Nat, j ≤ xs.length ∧ i = .int .i64 j ∧ t = .int .i64 (k + 2 * j) ∧ Hid (TmbsAt wr B A (marksTmb k j ++ xs.drop j)) ∧ w.grownBy wr (blk A) ∧ Hid (Free wr A)) (fun _ i _ => xs.length - (intOf i).toNat)
  case atStart => exact ⟨0, by omega, rfl, by simp, Lib.hid (by simpa [marksTmb] using H.out), World.grownBy.refl _ _, Hf⟩
  case round =>
    obtain ⟨j, hj, rfl, rfl, Hr, hg, Hfr⟩ := hrel
    by_cases hlt : j < xs.length
    · have hjl : j < (marksTmb k j ++ xs.drop j).length := by simp [length_marksTmb]; omega
      obtain ⟨b, off, rfl, hb, p0, p1⟩ := TmbsAt.one Hr.out hjl
      have hbs : b < wr.heap.size := by have := hg.size; omega
      obtain ⟨v0, q0⟩ : ∃ v, wr.cell? ⟨b, off + j * 2, none⟩ = some v := ⟨_, p0⟩
      obtain ⟨v1, q1⟩ : ∃ v, wr.cell? ⟨b, off + j * 2 + 1, none⟩ = some v := ⟨_, p1⟩
      clear p0 p1
      have fz : ∀ i, wr.frozen? ⟨b, i, none⟩ = false := Hfr.out b rfl
      have Fz := Lib.hid fz; clear fz
      have f0 : wr.frozen? ⟨b, off + j * 2, none⟩ = false := Fz.out _
      go_wp2_with fail
      obtain ⟨w2, hw2⟩ : ∃ w2, w2 = (wr.setCell ⟨b, off + j * 2, none⟩ (.int .i64 (k + 2 * (j : Int)))) := ⟨_, rfl⟩
      have d0 : w2.cell? ⟨b, off + j * 2, none⟩ = some (.int .i64 (k + 2 * (j : Int))) := by rw [hw2]; exact cset_eq _ _ _ _ q0
      have dO : ∀ i, i ≠ off + j * 2 → w2.cell? ⟨b, i, none⟩ = wr.cell? ⟨b, i, none⟩ := fun i g0 => by rw [hw2, cset_ne _ _ _ _ _ (by omega)]
      have dF : ∀ i, w2.frozen? ⟨b, i, none⟩ = false := fun i => by rw [hw2, frozen_setCell]; exact Fz.out i
      have dG : w.grownBy w2 (some b) := by rw [hw2]; exact (grown_setCell (row := some b) hg ⟨b, _, none⟩ (.inl rfl) _)
      rw [← hw2]
      clear hw2 f0
      have DO := Lib.hid dO; clear dO
      have DF := Lib.hid dF; clear dF
      have D0 := Lib.hid d0; clear d0
      have hb2s : b < w2.heap.size := by have := dG.size; omega
      refine (markText_any _ _ (by omega)).mono ?_
      rintro e w3 ⟨rfl, hb3⟩
      have c1 : w3.cell? ⟨b, off + j * 2 + 1, none⟩ = some v1 := (hb3.cell hb2s).trans ((DO.out _ (by omega)).trans q1)
      have f1 : w3.frozen? ⟨b, off + j * 2 + 1, none⟩ = false := (hb3.frozen hb2s).trans (DF.out _)
      have hn : TmbsAt (w3.setCell ⟨b, off + j * 2 + 1, none⟩ (.string (mtx (k + 2 * (j : Int) + 1)))) B (some ⟨b, off, none⟩) (marksTmb k (j + 1) ++ xs.drop (j + 1)) := by
        rw [marksTmb_succ, ← set_mid (marksTmb k j) xs j (mkTmb (k + 2 * (j : Int))) (length_marksTmb k j) hlt]
        refine Sl.set Hr.out len_Tmb hjl _ ?_ ?_
        · intro i v hv
          match i, hv with
          | 0, hv =>
            simp [GTmb.vals, mkTmb] at hv; subst hv
            rw [cset_ne _ _ _ _ _ (by omega)]; exact (hb3.cell hb2s).trans D0.out
          | 1, hv =>
            simp [GTmb.vals, mkTmb] at hv; subst hv
            exact cset_eq _ _ _ _ c1
          | i + 2, hv => simp [GTmb.vals] at hv
        · intro i hi
          rw [cset_ne _ _ _ _ _ (by omega)]
          exact (hb3.cell hb2s).trans (DO.out i (by omega))
      have Hn := Lib.hid hn; clear hn
      have hg3 : w.grownBy (w3.setCell ⟨b, off + j * 2 + 1, none⟩ (.string (mtx (k + 2 * (j : Int) + 1)))) (some b) := grown_setCell (grown_trans dG (grown_of_below hb3 _)) _ (.inl rfl) _
      have hf3 : Free (w3.setCell ⟨b, off + j * 2 + 1, none⟩ (.string (mtx (k + 2 * (j : Int) + 1)))) (some ⟨b, off, none⟩) := fun b' e i => by
        simp [blk] at e; subst e
        rw [frozen_setCell]; exact (hb3.frozen hb2s).trans (DF.out i)
      have Hf3 := Lib.hid hf3; clear hf3
      have Hg3 := Lib.hid hg3; clear hg3
      go_wp2
      go_roundw
      case rel => exact ⟨j + 1, by omega, by go_num, by go_num, Hn, Hg3.out, Hf3⟩
      case measure => simp [intOf]; omega
    · obtain rfl : j = xs.length := by omega
      have hn : TmbsAt wr B A (marksTmb k xs.length) := by simpa using Hr.out
      have Hn := Lib.hid hn; clear hn
      go_wp2
      go_ret
      exact ⟨rfl, Hn.out, hg, Hfr.out⟩

set_option maxRecDepth 100000 in
theorem heldTombS_any (A : Option Addr) (c n : Nat) (k : Int) (B : Nat) (w : World) (h : TmbsAt w B A (marksTmb k n)) (hB : B ≤ w.heap.size) (hl : n ≤ 16777216) (hk0 : 0 ≤ k) (hk : k ≤ 67108864) :
    Calls Tryz.prog 41 #[.slice A n c, .int .i64 k] w fun e w' => e = .returned (.int .i64 (k + 2 * n)) ∧ Below w.heap.size w w' := by
  have H := Lib.hid h; clear h
  go_enter Tryz.func41, Tryz.ntmps41
  go_wp2_with fail
  go_loopw [1, 5] (fun t i wr => ∃ j : Nat, j ≤ n ∧ i = .int .i64 j ∧ t = .int .i64 (k + 2 * j) ∧ Below w.heap.size w wr) (fun _ i _ => n - (intOf i).toNat)
  case atStart => exact ⟨0, by omega, rfl, by simp, Below.refl _ _⟩
  case round =>
    obtain ⟨j, hj, rfl, rfl, hb⟩ := hrel
    by_cases hlt : j < n
    · have hjl : j < (marksTmb k n).length := by rw [length_marksTmb]; exact hlt
      obtain ⟨b, off, rfl, hbB, p0, p1⟩ := TmbsAt.one (Sl.below H.out hb hB) hjl
      rw [marksTmb_at] at p0 p1
      simp only [mkTmb] at p0 p1
      have hbs : b < wr.heap.size := by have := hb.size; omega
      go_wp2_with fail
      go_region_held3 (fun w' => w'.cell? ⟨b, off + j * 2 + 1, none⟩ = some (.string (mtx (k + 2 * (j : Int) + 1)))) (first | go_keep | (rw [hb2.cell (by simpa using hbs)]; simpa using p1))
        (first | (go_at_call 71; refine (markText_any _ _ (by omega)).mono ?_; rintro e w2 ⟨rfl, hb2⟩))
      have hbd : Below wr.heap.size wr w2 := (Below.refl _ _).drew.trans hb2
      have hbw2 : Below w.heap.size w w2 := hb.trans (hbd.mono hb.size)
      clear p0 p1 hb2 hbd
      go_wp2
      go_roundw
      case rel => exact ⟨j + 1, by omega, by go_num, by go_num, hbw2⟩
      case measure => simp [intOf]; omega
    · obtain rfl : j = n := by omega
      go_wp2
      go_ret
      exact ⟨rfl, hb⟩

end Go.Proofs.YtpfanmcjlfdaiaaGreatDoorR

/- Words for states, and contracts of the laws' own helpers on them (sz, to, eq, mark, held). No conditions. -/
namespace Go.Proofs.YtpfanmcjlfdaiaaGreatDoorR
open Go.ChangeShapes Go.WideShapes Go.ChangeAt Go.RowKit Go.Deep Go.Joins
set_option linter.unusedVariables false
set_option linter.unusedSimpArgs false

/-- a state as data -/
structure GSt where
  sq : Int
  fe : Int
  ents : List GEnt
  tmbs : List GTmb
  lo : GTri
  hi : GTri
deriving DecidableEq

def zSt : GSt := ⟨0, 0, [], [], zTri, zTri⟩

/-- its two lists lie there -/
def StAt (w : World) (B : Nat) (A A2 : Option Addr) (s : GSt) : Prop := EntsAt w B A s.ents ∧ TmbsAt w B A2 s.tmbs

theorem StAt.below {w w' : World} {B B' : Nat} {A A2 : Option Addr} {s : GSt} (h : StAt w B A A2 s) (hb : Below B' w w') (hB : B ≤ B') : StAt w' B A A2 s := ⟨Sl.below h.1 hb hB, Sl.below h.2 hb hB⟩

theorem StAt.more {w : World} {B B' : Nat} {A A2 : Option Addr} {s : GSt} (h : StAt w B A A2 s) (hB : B ≤ B') : StAt w B' A A2 s := ⟨Sl.more h.1 hB, Sl.more h.2 hB⟩

/-- both lists lie in blocks of their own, from x on, that may be written -/
def StOwn (x : Nat) (w : World) (A A2 : Option Addr) : Prop := Free w A ∧ Free w A2 ∧ (∀ b, blk A = some b → x ≤ b ∧ b < w.heap.size) ∧ (∀ b, blk A2 = some b → x ≤ b ∧ b < w.heap.size) ∧ ∀ b, blk A = some b → blk A2 ≠ some b

theorem StOwn.below {x B : Nat} {w w' : World} {A A2 : Option Addr} (h : StOwn x w A A2) (hb : Below B w w') (hB : w.heap.size ≤ B) : StOwn x w' A A2 :=
  ⟨h.1.below hb (fun b e => Nat.lt_of_lt_of_le (h.2.2.1 b e).2 hB), h.2.1.below hb (fun b e => Nat.lt_of_lt_of_le (h.2.2.2.1 b e).2 hB), fun b e => ⟨(h.2.2.1 b e).1, Nat.lt_of_lt_of_le (h.2.2.1 b e).2 hb.size⟩, fun b e => ⟨(h.2.2.2.1 b e).1, Nat.lt_of_lt_of_le (h.2.2.2.1 b e).2 hb.size⟩, h.2.2.2.2⟩

/-- a state is answered, in new memory of its own -/
def NewStt (s : GSt) (w : World) (e : Ending) (w' : World) : Prop :=
  ∃ (A : Option Addr) (c : Nat) (A2 : Option Addr) (c2 : Nat), e = .returned (.agg #[.int .i64 s.sq, .int .i64 s.fe, .slice A s.ents.length c, .slice A2 s.tmbs.length c2, .int .i64 s.lo.a, .int .i64 s.lo.b, .int .i64 s.lo.c, .int .i64 s.hi.a, .int .i64 s.hi.b, .int .i64 s.hi.c]) ∧ StAt w' w'.heap.size A A2 s ∧ StOwn w.heap.size w' A A2 ∧ s.ents.length ≤ c ∧ s.tmbs.length ≤ c2 ∧ Below w.heap.size w w'

theorem Cells.set {w : World} {b o : Nat} {vs : List Value} (h : Cells w b o vs) {k : Nat} (hk : k < vs.length) (u : Value) : Cells (w.setCell ⟨b, o + k, none⟩ u) b o (vs.set k u) := fun j v hv => by
  by_cases e : k = j
  · subst e
    rw [List.getElem?_set_self hk] at hv
    cases hv
    exact cset_eq _ _ _ _ (h k vs[k] (List.getElem?_eq_getElem hk))
  · rw [List.getElem?_set_ne e] at hv
    exact (cset_ne _ _ _ _ _ (by omega)).trans (h j v hv)

theorem sl_putsFar {α : Type} {f : α → List Value} {m B g : Nat} {A : Option Addr} {xs : List α} (hp : ∀ b, blk A = some b → b ≠ g) : ∀ (vs : List Value) (w : World) (i : Nat), Sl f m w B A xs → Sl f m (puts w g i vs) B A xs
  | [], _, _, h => h
  | v :: vs, w, i, h => sl_putsFar hp vs _ (i + 1) (h.far hp v)

theorem free_putsFar {w : World} {A : Option Addr} (h : Free w A) (g i : Nat) (vs : List Value) : Free (puts w g i vs) A := fun b e j => (puts_frozen g _ vs w i).trans (h b e j)

theorem cells_putsFar {b o g : Nat} {us : List Value} (hp : b ≠ g) : ∀ (vs : List Value) (w : World) (i : Nat), Cells w b o us → Cells (puts w g i vs) b o us
  | [], _, _, h => h
  | v :: vs, w, i, h => cells_putsFar hp vs _ (i + 1) (h.far hp v)

theorem puts_belowB {B : Nat} {a : World} (g : Nat) (hg : B ≤ g) : ∀ (vs : List Value) (w : World) (i : Nat), Below B a w → Below B a (puts w g i vs)
  | [], _, _, h => h
  | v :: vs, w, i, h => puts_belowB g hg vs _ (i + 1) (h.setCell hg v)

theorem Cells.ten {w : World} {b : Nat} {v0 v1 v2 v3 v4 v5 v6 v7 v8 v9 : Value} (h : Cells w b 0 [v0, v1, v2, v3, v4, v5, v6, v7, v8, v9]) :
    w.cell? ⟨b, 0, none⟩ = some v0 ∧ w.cell? ⟨b, 1, none⟩ = some v1 ∧ w.cell? ⟨b, 2, none⟩ = some v2 ∧ w.cell? ⟨b, 3, none⟩ = some v3 ∧ w.cell? ⟨b, 4, none⟩ = some v4 ∧ w.cell? ⟨b, 5, none⟩ = some v5 ∧ w.cell? ⟨b, 6, none⟩ = some v6 ∧ w.cell? ⟨b, 7, none⟩ = some v7 ∧ w.cell? ⟨b, 8, none⟩ = some v8 ∧ w.cell? ⟨b, 9, none⟩ = some v9 := ⟨h 0 _ rfl, h 1 _ rfl, h 2 _ rfl, h 3 _ rfl, h 4 _ rfl, h 5 _ rfl, h 6 _ rfl, h 7 _ rfl, h 8 _ rfl, h 9 _ rfl⟩

theorem szState_any (A : Option Addr) (c : Nat) (A2 : Option Addr) (c2 : Nat) (s : GSt) (left : Int) (B : Nat) (w : World) (h : StAt w B A A2 s) (hB : B ≤ w.heap.size) (hf : ∀ o ∈ s.ents, o.fit) (hf2 : ∀ o ∈ s.tmbs, o.fit) (hl : s.ents.length ≤ maxLen) (hl2 : s.tmbs.length ≤ maxLen) (h0 : 0 ≤ left) (h1 : left ≤ 1048576) :
    Calls Tryz.prog 5 #[.agg #[.int .i64 s.sq, .int .i64 s.fe, .slice A s.ents.length c, .slice A2 s.tmbs.length c2, .int .i64 s.lo.a, .int .i64 s.lo.b, .int .i64 s.lo.c, .int .i64 s.hi.a, .int .i64 s.hi.b, .int .i64 s.hi.c], .int .i64 left] w (Left ((s.ents.length ≤ 1048576 ∧ ∀ o ∈ s.ents, o.small) ∧ s.tmbs.length ≤ 1048576 ∧ ∀ o ∈ s.tmbs, o.small) left w) := by
  have H := Lib.hid h; clear h
  have Hf := Lib.hid hf; clear hf
  have Hf2 := Lib.hid hf2; clear hf2
  go_enter Tryz.func5, Tryz.ntmps5
  go_wp2_with fail
  refine (szEntryS_any A c s.ents left B _ (Sl.below H.out.1 (bal (Below.refl _ _) _) hB) (by simp; omega) Hf.out hl h0 h1).mono ?_
  rintro e w1 ⟨u, hu, hu1, hu2, rfl, hb1⟩
  have c3 : w1.cell? ⟨w.heap.size, 3, none⟩ = some (.slice A2 s.tmbs.length c2) := by rw [hb1.cell (by simp)]; simp [go_sem]
  have hb2 : Below w.heap.size w w1 := (bal (Below.refl _ _) _).trans (hb1.mono (by simp))
  have Hu := Lib.hid hu; clear hu hb1
  by_cases g1 : u < 0
  · have d2 : decide (u < 0) = true := by simpa using g1
    go_wp2
    go_ret
    exact ⟨-1, fun h => by omega, by omega, by omega, rfl, hb2⟩
  · have d2 : decide (u < 0) = false := by simpa using g1
    obtain ⟨hP, hle⟩ := Hu.out (by omega)
    have HP := Lib.hid hP; clear hP
    go_wp2_with fail
    refine (szTombS_any A2 c2 s.tmbs u B _ (Sl.below H.out.2 hb2 hB) (by have := hb2.size; omega) Hf2.out hl2 (by omega) (by omega)).mono ?_
    rintro e w2 ⟨v, hv, hv1, hv2, rfl, hb3⟩
    have hb4 := bnext hb2 hb3
    have Hv := Lib.hid hv; clear hv hb3 c3
    by_cases g2 : v < 0
    · have d3 : decide (v < 0) = true := by simpa using g2
      go_wp2
      go_ret
      exact ⟨-1, fun h => by omega, by omega, by omega, rfl, hb4⟩
    · have d3 : decide (v < 0) = false := by simpa using g2
      obtain ⟨hQ, hle2⟩ := Hv.out (by omega)
      have HQ := Lib.hid hQ; clear hQ
      go_wp2
      go_ret
      exact ⟨v, fun h => ⟨⟨HP.out, HQ.out⟩, by omega⟩, hv1, hv2, rfl, hb4⟩

set_option maxRecDepth 100000 in
set_option maxHeartbeats 1000000 in
theorem toState_any (A : Option Addr) (c : Nat) (A2 : Option Addr) (c2 : Nat) (s : GSt) (B : Nat) (w : World) (h : StAt w B A A2 s) (hB : B ≤ w.heap.size) (hl : s.ents.length ≤ 1048576) (hl2 : s.tmbs.length ≤ 1048576) :
    Calls Tryz.prog 8 #[.agg #[.int .i64 s.sq, .int .i64 s.fe, .slice A s.ents.length c, .slice A2 s.tmbs.length c2, .int .i64 s.lo.a, .int .i64 s.lo.b, .int .i64 s.lo.c, .int .i64 s.hi.a, .int .i64 s.hi.b, .int .i64 s.hi.c]] w (NewStt s w) := by
  have H := Lib.hid h; clear h
  go_enter Tryz.func8, Tryz.ntmps8
  go_wp2_with fail
  refine (toEntryS_any A c s.ents B _ (Sl.below H.out.1 (by repeat' first | exact Below.refl _ _ | refine bal ?_ _ | refine bset ?_ (by simp) _) hB) (by simp; omega) hl).mono ?_
  rintro e w1 ⟨A1, c1, rfl, ho, hf, hbl, hc, hb1⟩
  have ca : Cells w1 w.heap.size 0 [.int .i64 s.sq, .int .i64 s.fe, .slice A s.ents.length c, .slice A2 s.tmbs.length c2, .int .i64 s.lo.a, .int .i64 s.lo.b, .int .i64 s.lo.c, .int .i64 s.hi.a, .int .i64 s.hi.b, .int .i64 s.hi.c] := fun j v hv => by
    rw [Nat.zero_add]
    match j, hv with
    | 0, hv => simp only [List.getElem?_cons_zero, List.getElem?_cons_succ, Option.some.injEq] at hv; subst hv; rw [hb1.cell (by simp <;> omega)]; simp [go_sem]
    | 1, hv => simp only [List.getElem?_cons_zero, List.getElem?_cons_succ, Option.some.injEq] at hv; subst hv; rw [hb1.cell (by simp <;> omega)]; simp [go_sem]
    | 2, hv => simp only [List.getElem?_cons_zero, List.getElem?_cons_succ, Option.some.injEq] at hv; subst hv; rw [hb1.cell (by simp <;> omega)]; simp [go_sem]
    | 3, hv => simp only [List.getElem?_cons_zero, List.getElem?_cons_succ, Option.some.injEq] at hv; subst hv; rw [hb1.cell (by simp <;> omega)]; simp [go_sem]
    | 4, hv => simp only [List.getElem?_cons_zero, List.getElem?_cons_succ, Option.some.injEq] at hv; subst hv; rw [hb1.cell (by simp <;> omega)]; simp [go_sem]
    | 5, hv => simp only [List.getElem?_cons_zero, List.getElem?_cons_succ, Option.some.injEq] at hv; subst hv; rw [hb1.cell (by simp <;> omega)]; simp [go_sem]
    | 6, hv => simp only [List.getElem?_cons_zero, List.getElem?_cons_succ, Option.some.injEq] at hv; subst hv; rw [hb1.cell (by simp <;> omega)]; simp [go_sem]
    | 7, hv => simp only [List.getElem?_cons_zero, List.getElem?_cons_succ, Option.some.injEq] at hv; subst hv; rw [hb1.cell (by simp <;> omega)]; simp [go_sem]
    | 8, hv => simp only [List.getElem?_cons_zero, List.getElem?_cons_succ, Option.some.injEq] at hv; subst hv; rw [hb1.cell (by simp <;> omega)]; simp [go_sem]
    | 9, hv => simp only [List.getElem?_cons_zero, List.getElem?_cons_succ, Option.some.injEq] at hv; subst hv; rw [hb1.cell (by simp <;> omega)]; simp [go_sem]
    | j + 10, hv => simp at hv
  have cz : Cells w1 (w.heap.size + 1) 0 [.int .i64 0, .int .i64 0, .slice none 0 0, .slice none 0 0, .int .i64 0, .int .i64 0, .int .i64 0, .int .i64 0, .int .i64 0, .int .i64 0] := fun j v hv => by
    rw [Nat.zero_add]
    match j, hv with
    | 0, hv => simp only [List.getElem?_cons_zero, List.getElem?_cons_succ, Option.some.injEq] at hv; subst hv; rw [hb1.cell (by simp <;> omega)]; simp [go_sem]
    | 1, hv => simp only [List.getElem?_cons_zero, List.getElem?_cons_succ, Option.some.injEq] at hv; subst hv; rw [hb1.cell (by simp <;> omega)]; simp [go_sem]
    | 2, hv => simp only [List.getElem?_cons_zero, List.getElem?_cons_succ, Option.some.injEq] at hv; subst hv; rw [hb1.cell (by simp <;> omega)]; simp [go_sem]
    | 3, hv => simp only [List.getElem?_cons_zero, List.getElem?_cons_succ, Option.some.injEq] at hv; subst hv; rw [hb1.cell (by simp <;> omega)]; simp [go_sem]
    | 4, hv => simp only [List.getElem?_cons_zero, List.getElem?_cons_succ, Option.some.injEq] at hv; subst hv; rw [hb1.cell (by simp <;> omega)]; simp [go_sem]
    | 5, hv => simp only [List.getElem?_cons_zero, List.getElem?_cons_succ, Option.some.injEq] at hv; subst hv; rw [hb1.cell (by simp <;> omega)]; simp [go_sem]
    | 6, hv => simp only [List.getElem?_cons_zero, List.getElem?_cons_succ, Option.some.injEq] at hv; subst hv; rw [hb1.cell (by simp <;> omega)]; simp [go_sem]
    | 7, hv => simp only [List.getElem?_cons_zero, List.getElem?_cons_succ, Option.some.injEq] at hv; subst hv; rw [hb1.cell (by simp <;> omega)]; simp [go_sem]
    | 8, hv => simp only [List.getElem?_cons_zero, List.getElem?_cons_succ, Option.some.injEq] at hv; subst hv; rw [hb1.cell (by simp <;> omega)]; simp [go_sem]
    | 9, hv => simp only [List.getElem?_cons_zero, List.getElem?_cons_succ, Option.some.injEq] at hv; subst hv; rw [hb1.cell (by simp <;> omega)]; simp [go_sem]
    | j + 10, hv => simp at hv
  have co : Cells w1 (w.heap.size + 1 + 1) 0 [.int .i64 s.sq, .int .i64 s.fe, .slice none 0 0, .slice none 0 0, .int .i64 0, .int .i64 0, .int .i64 0, .int .i64 0, .int .i64 0, .int .i64 0] := fun j v hv => by
    rw [Nat.zero_add]
    match j, hv with
    | 0, hv => simp only [List.getElem?_cons_zero, List.getElem?_cons_succ, Option.some.injEq] at hv; subst hv; rw [hb1.cell (by simp <;> omega)]; simp [go_sem]
    | 1, hv => simp only [List.getElem?_cons_zero, List.getElem?_cons_succ, Option.some.injEq] at hv; subst hv; rw [hb1.cell (by simp <;> omega)]; simp [go_sem]
    | 2, hv => simp only [List.getElem?_cons_zero, List.getElem?_cons_succ, Option.some.injEq] at hv; subst hv; rw [hb1.cell (by simp <;> omega)]; simp [go_sem]
    | 3, hv => simp only [List.getElem?_cons_zero, List.getElem?_cons_succ, Option.some.injEq] at hv; subst hv; rw [hb1.cell (by simp <;> omega)]; simp [go_sem]
    | 4, hv => simp only [List.getElem?_cons_zero, List.getElem?_cons_succ, Option.some.injEq] at hv; subst hv; rw [hb1.cell (by simp <;> omega)]; simp [go_sem]
    | 5, hv => simp only [List.getElem?_cons_zero, List.getElem?_cons_succ, Option.some.injEq] at hv; subst hv; rw [hb1.cell (by simp <;> omega)]; simp [go_sem]
    | 6, hv => simp only [List.getElem?_cons_zero, List.getElem?_cons_succ, Option.some.injEq] at hv; subst hv; rw [hb1.cell (by simp <;> omega)]; simp [go_sem]
    | 7, hv => simp only [List.getElem?_cons_zero, List.getElem?_cons_succ, Option.some.injEq] at hv; subst hv; rw [hb1.cell (by simp <;> omega)]; simp [go_sem]
    | 8, hv => simp only [List.getElem?_cons_zero, List.getElem?_cons_succ, Option.some.injEq] at hv; subst hv; rw [hb1.cell (by simp <;> omega)]; simp [go_sem]
    | 9, hv => simp only [List.getElem?_cons_zero, List.getElem?_cons_succ, Option.some.injEq] at hv; subst hv; rw [hb1.cell (by simp <;> omega)]; simp [go_sem]
    | j + 10, hv => simp at hv
  have fz : ∀ i, w1.frozen? ⟨w.heap.size + 1, i, none⟩ = false := fun i => by rw [hb1.frozen (by simp <;> omega)]; simp [go_sem]
  have fo : ∀ i, w1.frozen? ⟨w.heap.size + 1 + 1, i, none⟩ = false := fun i => by rw [hb1.frozen (by simp <;> omega)]; simp [go_sem]
  have hsz : w.heap.size + 3 ≤ w1.heap.size := by have := hb1.size; simp at this; omega
  have hbw : Below w.heap.size w w1 := by
    refine Below.trans ?_ (hb1.mono ?_)
    · repeat' first | exact Below.refl _ _ | refine bal ?_ _ | refine bset ?_ (by simp) _
    · simp <;> omega
  have hbl1 : ∀ b, blk A1 = some b → w.heap.size + 3 ≤ b ∧ b < w1.heap.size := fun b e => ⟨by have := (hbl b e).1; simp at this; omega, (hbl b e).2⟩
  have HO := Lib.hid ho; have HF := Lib.hid hf; have HL := Lib.hid hbl1
  have HH : Hid (∀ w', Below w.heap.size w w' → TmbsAt w' B A2 s.tmbs) := Lib.hid (fun w' h => Sl.below H.out.2 h hB)
  clear ho hf hbl hbl1 hb1 H
  have HB0 : Hid (B ≤ w.heap.size) := Lib.hid hB
  clear hB
  generalize hx0 : w.heap.size = x0 at *
  have Hx0 := Lib.hid hx0; clear hx0
  have o2 := co 2 _ rfl
  have g2 := fo 2
  have p3 := ca 3 _ rfl
  simp only [Nat.zero_add] at o2 p3
  have CA := Lib.hid ca; have CZ := Lib.hid cz; have CO := Lib.hid co; have FZ := Lib.hid fz; have FO := Lib.hid fo
  clear ca cz co fz fo
  go_wp2_with fail
  have hbv1 : Below x0 w (w1.setCell ⟨x0 + 1 + 1, 2, none⟩ (.slice A1 s.ents.length c1)) := hbw.setCell (by show x0 ≤ x0 + 1 + 1; omega) _
  refine (toTombS_any A2 c2 s.tmbs B _ (HH.out _ hbv1) (by rw [size_setCell]; have := HB0.out; omega) hl2).mono ?_
  rintro e w2 ⟨A3, c3, rfl, ho2, hf2, hbl2, hc2, hb2⟩
  rw [size_setCell] at hb2 hbl2
  have hs2 : w1.heap.size ≤ w2.heap.size := by have := hb2.size; rw [size_setCell] at this; exact this
  have CA2 : Hid (Cells w2 x0 0 [.int .i64 s.sq, .int .i64 s.fe, .slice A s.ents.length c, .slice A2 s.tmbs.length c2, .int .i64 s.lo.a, .int .i64 s.lo.b, .int .i64 s.lo.c, .int .i64 s.hi.a, .int .i64 s.hi.b, .int .i64 s.hi.c]) := Lib.hid ((CA.out.far (by show x0 ≠ x0 + 1 + 1; omega) _).below hb2 (by omega))
  have CZ2 : Hid (Cells w2 (x0 + 1) 0 [.int .i64 0, .int .i64 0, .slice none 0 0, .slice none 0 0, .int .i64 0, .int .i64 0, .int .i64 0, .int .i64 0, .int .i64 0, .int .i64 0]) := Lib.hid ((CZ.out.far (by show x0 + 1 ≠ x0 + 1 + 1; omega) _).below hb2 (by omega))
  have CO2 : Hid (Cells w2 (x0 + 1 + 1) 0 [.int .i64 s.sq, .int .i64 s.fe, .slice A1 s.ents.length c1, .slice none 0 0, .int .i64 0, .int .i64 0, .int .i64 0, .int .i64 0, .int .i64 0, .int .i64 0]) := Lib.hid ((by simpa using CO.out.set (k := 2) (by simp) (.slice A1 s.ents.length c1) : Cells (w1.setCell ⟨x0 + 1 + 1, 2, none⟩ (.slice A1 s.ents.length c1)) (x0 + 1 + 1) 0 [.int .i64 s.sq, .int .i64 s.fe, .slice A1 s.ents.length c1, .slice none 0 0, .int .i64 0, .int .i64 0, .int .i64 0, .int .i64 0, .int .i64 0, .int .i64 0]).below hb2 (by omega))
  have FZ2 : Hid (∀ i, w2.frozen? ⟨x0 + 1, i, none⟩ = false) := Lib.hid (fun i => (hb2.frozen (p := ⟨x0 + 1, i, none⟩) (by show x0 + 1 < _; omega)).trans ((frozen_setCell _ _ _ _).trans (FZ.out i)))
  have FO2 : Hid (∀ i, w2.frozen? ⟨x0 + 1 + 1, i, none⟩ = false) := Lib.hid (fun i => (hb2.frozen (p := ⟨x0 + 1 + 1, i, none⟩) (by show x0 + 1 + 1 < _; omega)).trans ((frozen_setCell _ _ _ _).trans (FO.out i)))
  have HO2 : Hid (EntsAt w2 w1.heap.size A1 s.ents) := Lib.hid (Sl.below (Sl.far HO.out (fun b e => by have := (HL.out b e).1; show b ≠ x0 + 1 + 1; omega) _) hb2 (Nat.le_refl _))
  have HF2 : Hid (Free w2 A1) := Lib.hid ((HF.out.setCell _ _).below hb2 (fun b e => (HL.out b e).2))
  have hbw2 : Below x0 w w2 := hbv1.trans (hb2.mono (by omega))
  have HO3 := Lib.hid ho2; have HF3 := Lib.hid hf2; have HL3 := Lib.hid hbl2
  clear ho2 hf2 hbl2 CA CZ CO FZ FO HO HF hbw hbv1 HH o2 g2 p3 hb2
  have o3 := CO2.out 3 _ rfl
  have g3 := FO2.out 3
  have p4 := CA2.out 4 _ rfl
  have p5 := CA2.out 5 _ rfl
  have p6 := CA2.out 6 _ rfl
  simp only [Nat.zero_add] at o3 p4 p5 p6
  go_wp2_with fail
  have hbv2 : Below x0 w (w2.setCell ⟨x0 + 1 + 1, 3, none⟩ (.slice A3 s.tmbs.length c3)) := hbw2.setCell (by show x0 ≤ x0 + 1 + 1; omega) _
  refine (toIntA3_any s.lo _).mono ?_
  rintro e w3 ⟨rfl, hb3⟩
  rw [size_setCell] at hb3
  have hs3 : w2.heap.size ≤ w3.heap.size := by have := hb3.size; rw [size_setCell] at this; exact this
  have CA3 : Hid (Cells w3 x0 0 [.int .i64 s.sq, .int .i64 s.fe, .slice A s.ents.length c, .slice A2 s.tmbs.length c2, .int .i64 s.lo.a, .int .i64 s.lo.b, .int .i64 s.lo.c, .int .i64 s.hi.a, .int .i64 s.hi.b, .int .i64 s.hi.c]) := Lib.hid ((CA2.out.far (by show x0 ≠ x0 + 1 + 1; omega) _).below hb3 (by omega))
  have CZ3 : Hid (Cells w3 (x0 + 1) 0 [.int .i64 0, .int .i64 0, .slice none 0 0, .slice none 0 0, .int .i64 0, .int .i64 0, .int .i64 0, .int .i64 0, .int .i64 0, .int .i64 0]) := Lib.hid ((CZ2.out.far (by show x0 + 1 ≠ x0 + 1 + 1; omega) _).below hb3 (by omega))
  have CO3 : Hid (Cells w3 (x0 + 1 + 1) 0 [.int .i64 s.sq, .int .i64 s.fe, .slice A1 s.ents.length c1, .slice A3 s.tmbs.length c3, .int .i64 0, .int .i64 0, .int .i64 0, .int .i64 0, .int .i64 0, .int .i64 0]) := Lib.hid ((by simpa using CO2.out.set (k := 3) (by simp) (.slice A3 s.tmbs.length c3) : Cells (w2.setCell ⟨x0 + 1 + 1, 3, none⟩ (.slice A3 s.tmbs.length c3)) (x0 + 1 + 1) 0 [.int .i64 s.sq, .int .i64 s.fe, .slice A1 s.ents.length c1, .slice A3 s.tmbs.length c3, .int .i64 0, .int .i64 0, .int .i64 0, .int .i64 0, .int .i64 0, .int .i64 0]).below hb3 (by omega))
  have FZ3 : Hid (∀ i, w3.frozen? ⟨x0 + 1, i, none⟩ = false) := Lib.hid (fun i => (hb3.frozen (p := ⟨x0 + 1, i, none⟩) (by show x0 + 1 < _; omega)).trans ((frozen_setCell _ _ _ _).trans (FZ2.out i)))
  have FO3 : Hid (∀ i, w3.frozen? ⟨x0 + 1 + 1, i, none⟩ = false) := Lib.hid (fun i => (hb3.frozen (p := ⟨x0 + 1 + 1, i, none⟩) (by show x0 + 1 + 1 < _; omega)).trans ((frozen_setCell _ _ _ _).trans (FO2.out i)))
  have HO4 : Hid (EntsAt w3 w1.heap.size A1 s.ents) := Lib.hid (Sl.below (Sl.far HO2.out (fun b e => by have := (HL.out b e).1; show b ≠ x0 + 1 + 1; omega) _) hb3 hs2)
  have HF4 : Hid (Free w3 A1) := Lib.hid ((HF2.out.setCell _ _).below hb3 (fun b e => Nat.lt_of_lt_of_le (HL.out b e).2 hs2))
  have HO5 : Hid (TmbsAt w3 w2.heap.size A3 s.tmbs) := Lib.hid (Sl.below (Sl.far HO3.out (fun b e => by have := (HL3.out b e).1; show b ≠ x0 + 1 + 1; omega) _) hb3 (Nat.le_refl _))
  have HF5 : Hid (Free w3 A3) := Lib.hid ((HF3.out.setCell _ _).below hb3 (fun b e => (HL3.out b e).2))
  have hbw3 : Below x0 w w3 := hbv2.trans (hb3.mono (by omega))
  clear CA2 CZ2 CO2 FZ2 FO2 HO2 HF2 HO3 HF3 hbw2 hbv2 o3 g3 p4 p5 p6 hb3
  have o4 := CO3.out 4 _ rfl
  have o5 := CO3.out 5 _ rfl
  have o6 := CO3.out 6 _ rfl
  have g4 := FO3.out 4
  have g5 := FO3.out 5
  have g6 := FO3.out 6
  have p7 := CA3.out 7 _ rfl
  have p8 := CA3.out 8 _ rfl
  have p9 := CA3.out 9 _ rfl
  simp only [Nat.zero_add] at o4 o5 o6 p7 p8 p9
  go_wp2_with fail
  have e3 : ((w3.setCell ⟨x0 + 1 + 1, 4, none⟩ (.int .i64 s.lo.a)).setCell ⟨x0 + 1 + 1, 5, none⟩ (.int .i64 s.lo.b)).setCell ⟨x0 + 1 + 1, 6, none⟩ (.int .i64 s.lo.c) = puts w3 (x0 + 1 + 1) 4 [.int .i64 s.lo.a, .int .i64 s.lo.b, .int .i64 s.lo.c] := rfl
  rw [e3]
  have hbv3 : Below x0 w (puts w3 (x0 + 1 + 1) 4 [.int .i64 s.lo.a, .int .i64 s.lo.b, .int .i64 s.lo.c]) := puts_belowB _ (by omega) _ _ _ hbw3
  refine (toIntA3_any s.hi _).mono ?_
  rintro e w4 ⟨rfl, hb4⟩
  rw [puts_size] at hb4
  have hs4 : w3.heap.size ≤ w4.heap.size := by have := hb4.size; rw [puts_size] at this; exact this
  have CZ4 : Hid (Cells w4 (x0 + 1) 0 [.int .i64 0, .int .i64 0, .slice none 0 0, .slice none 0 0, .int .i64 0, .int .i64 0, .int .i64 0, .int .i64 0, .int .i64 0, .int .i64 0]) := Lib.hid ((cells_putsFar (by omega) _ _ _ CZ3.out).below hb4 (by omega))
  have CO4 : Hid (Cells w4 (x0 + 1 + 1) 0 [.int .i64 s.sq, .int .i64 s.fe, .slice A1 s.ents.length c1, .slice A3 s.tmbs.length c3, .int .i64 s.lo.a, .int .i64 s.lo.b, .int .i64 s.lo.c, .int .i64 0, .int .i64 0, .int .i64 0]) := Lib.hid ((by
    have h1 := CO3.out.set (k := 4) (by simp) (.int .i64 s.lo.a)
    have h2 := h1.set (k := 5) (by simp) (.int .i64 s.lo.b)
    have h3 := h2.set (k := 6) (by simp) (.int .i64 s.lo.c)
    simpa [puts] using h3 : Cells (puts w3 (x0 + 1 + 1) 4 [.int .i64 s.lo.a, .int .i64 s.lo.b, .int .i64 s.lo.c]) (x0 + 1 + 1) 0 [.int .i64 s.sq, .int .i64 s.fe, .slice A1 s.ents.length c1, .slice A3 s.tmbs.length c3, .int .i64 s.lo.a, .int .i64 s.lo.b, .int .i64 s.lo.c, .int .i64 0, .int .i64 0, .int .i64 0]).below hb4 (by omega))
  have FZ4 : Hid (∀ i, w4.frozen? ⟨x0 + 1, i, none⟩ = false) := Lib.hid (fun i => (hb4.frozen (p := ⟨x0 + 1, i, none⟩) (by show x0 + 1 < _; omega)).trans ((puts_frozen _ _ _ _ _).trans (FZ3.out i)))
  have FO4 : Hid (∀ i, w4.frozen? ⟨x0 + 1 + 1, i, none⟩ = false) := Lib.hid (fun i => (hb4.frozen (p := ⟨x0 + 1 + 1, i, none⟩) (by show x0 + 1 + 1 < _; omega)).trans ((puts_frozen _ _ _ _ _).trans (FO3.out i)))
  have HO6 : Hid (EntsAt w4 w1.heap.size A1 s.ents) := Lib.hid (Sl.below (sl_putsFar (fun b e => by have := (HL.out b e).1; omega) _ _ _ HO4.out) hb4 (by omega))
  have HF6 : Hid (Free w4 A1) := Lib.hid ((free_putsFar HF4.out _ _ _).below hb4 (fun b e => by have := (HL.out b e).2; omega))
  have HO7 : Hid (TmbsAt w4 w2.heap.size A3 s.tmbs) := Lib.hid (Sl.below (sl_putsFar (fun b e => by have := (HL3.out b e).1; omega) _ _ _ HO5.out) hb4 (by omega))
  have HF7 : Hid (Free w4 A3) := Lib.hid ((free_putsFar HF5.out _ _ _).below hb4 (fun b e => by have := (HL3.out b e).2; omega))
  have hbw4 : Below x0 w w4 := hbv3.trans (hb4.mono (by omega))
  clear CA3 CZ3 CO3 FZ3 FO3 HO4 HF4 HO5 HF5 hbw3 hbv3 o4 o5 o6 g4 g5 g6 p7 p8 p9 hb4 e3
  have o0 := CO4.out 0 _ rfl
  have o1 := CO4.out 1 _ rfl
  have o2 := CO4.out 2 _ rfl
  have o3 := CO4.out 3 _ rfl
  have o4 := CO4.out 4 _ rfl
  have o5 := CO4.out 5 _ rfl
  have o6 := CO4.out 6 _ rfl
  have o7 := CO4.out 7 _ rfl
  have o8 := CO4.out 8 _ rfl
  have o9 := CO4.out 9 _ rfl
  have g7 := FO4.out 7
  have g8 := FO4.out 8
  have g9 := FO4.out 9
  have z0 := CZ4.out 0 _ rfl
  have z1 := CZ4.out 1 _ rfl
  have z2 := CZ4.out 2 _ rfl
  have z3 := CZ4.out 3 _ rfl
  have z4 := CZ4.out 4 _ rfl
  have z5 := CZ4.out 5 _ rfl
  have z6 := CZ4.out 6 _ rfl
  have z7 := CZ4.out 7 _ rfl
  have z8 := CZ4.out 8 _ rfl
  have z9 := CZ4.out 9 _ rfl
  have y0 := FZ4.out 0
  have y1 := FZ4.out 1
  have y2 := FZ4.out 2
  have y3 := FZ4.out 3
  have y4 := FZ4.out 4
  have y5 := FZ4.out 5
  have y6 := FZ4.out 6
  have y7 := FZ4.out 7
  have y8 := FZ4.out 8
  have y9 := FZ4.out 9
  simp only [Nat.zero_add] at o0 o1 o2 o3 o4 o5 o6 o7 o8 o9 z0 z1 z2 z3 z4 z5 z6 z7 z8 z9
  go_wp2
  refine bodyPost_ret (v := .agg #[.int .i64 s.sq, .int .i64 s.fe, .slice A1 s.ents.length c1, .slice A3 s.tmbs.length c3, .int .i64 s.lo.a, .int .i64 s.lo.b, .int .i64 s.lo.c, .int .i64 s.hi.a, .int .i64 s.hi.b, .int .i64 s.hi.c]) (by simp [results, Tryz.results8, go_sem, *]) rfl ⟨A1, c1, A3, c3, rfl, ?_⟩
  obtain ⟨w5, hw5⟩ : ∃ w5, w5 = puts (puts w4 (x0 + 1 + 1) 7 [.int .i64 s.hi.a, .int .i64 s.hi.b, .int .i64 s.hi.c]) (x0 + 1) 0 [.int .i64 s.sq, .int .i64 s.fe, .slice A1 s.ents.length c1, .slice A3 s.tmbs.length c3, .int .i64 s.lo.a, .int .i64 s.lo.b, .int .i64 s.lo.c, .int .i64 s.hi.a, .int .i64 s.hi.b, .int .i64 s.hi.c] := ⟨_, rfl⟩
  have hz5 : w5.heap.size = w4.heap.size := by rw [hw5, puts_size, puts_size]
  have hb5 : Below x0 w w5 := by rw [hw5]; exact puts_belowB _ (by omega) _ _ _ (puts_belowB _ (by omega) _ _ _ hbw4)
  have hE5 : EntsAt w5 w1.heap.size A1 s.ents := by rw [hw5]; exact sl_putsFar (fun b e => by have := (HL.out b e).1; omega) _ _ _ (sl_putsFar (fun b e => by have := (HL.out b e).1; omega) _ _ _ HO6.out)
  have hT5 : TmbsAt w5 w2.heap.size A3 s.tmbs := by rw [hw5]; exact sl_putsFar (fun b e => by have := (HL3.out b e).1; omega) _ _ _ (sl_putsFar (fun b e => by have := (HL3.out b e).1; omega) _ _ _ HO7.out)
  have hF5 : Free w5 A1 := by rw [hw5]; exact free_putsFar (free_putsFar HF6.out _ _ _) _ _ _
  have hG5 : Free w5 A3 := by rw [hw5]; exact free_putsFar (free_putsFar HF7.out _ _ _) _ _ _
  have fin : StAt w5 w5.heap.size A1 A3 s ∧ StOwn x0 w5 A1 A3 ∧ s.ents.length ≤ c1 ∧ s.tmbs.length ≤ c3 ∧ Below x0 w w5 :=
    ⟨⟨Sl.more hE5 (by omega), Sl.more hT5 (by omega)⟩, ⟨hF5, hG5, fun b e => by have := HL.out b e; omega, fun b e => by have := HL3.out b e; omega, fun b e e' => by have h1 := HL.out b e; have h2 := HL3.out b e'; omega⟩, hc, hc2, hb5⟩
  rw [hw5] at fin
  rw [Hx0.out]
  exact fin

set_option maxRecDepth 100000 in
theorem eqState_any (A : Option Addr) (c : Nat) (A2 : Option Addr) (c2 : Nat) (D : Option Addr) (d : Nat) (D2 : Option Addr) (d2 : Nat) (s t : GSt) (B : Nat) (w : World) (h : StAt w B A A2 s) (k : StAt w B D D2 t) (hB : B ≤ w.heap.size)
    (hl : s.ents.length ≤ 4611686018427387904) (hl2 : s.tmbs.length ≤ 4611686018427387904) (kl : t.ents.length ≤ 4611686018427387904) (kl2 : t.tmbs.length ≤ 4611686018427387904) :
    Calls Tryz.prog 11 #[.agg #[.int .i64 s.sq, .int .i64 s.fe, .slice A s.ents.length c, .slice A2 s.tmbs.length c2, .int .i64 s.lo.a, .int .i64 s.lo.b, .int .i64 s.lo.c, .int .i64 s.hi.a, .int .i64 s.hi.b, .int .i64 s.hi.c], .agg #[.int .i64 t.sq, .int .i64 t.fe, .slice D t.ents.length d, .slice D2 t.tmbs.length d2, .int .i64 t.lo.a, .int .i64 t.lo.b, .int .i64 t.lo.c, .int .i64 t.hi.a, .int .i64 t.hi.b, .int .i64 t.hi.c]] w (IsBB (s = t) w) := by
  have Bw : ∀ o1 o2, Below w.heap.size w ((w.alloc o1).alloc o2) := fun o1 o2 => bal (bal (Below.refl _ _) _) _
  have BW := Lib.hid Bw; clear Bw
  have H := Lib.hid h; clear h
  have K := Lib.hid k; clear k
  by_cases e0 : s.sq = t.sq
  rotate_left
  · have u0 : (s.sq != t.sq) = true := by simpa using e0
    have u1 : (s.sq == t.sq) = false := by simpa using e0
    have Hn : Hid (¬ s = t) := Lib.hid (fun h => e0 (by rw [h]))
    clear e0
    go_enter Tryz.func11, Tryz.ntmps11
    go_wp2
    go_ret
    exact ⟨false, by simp [Hn.out], rfl, BW.out _ _⟩
  by_cases e1 : s.fe = t.fe
  rotate_left
  · have u0 : (s.sq != t.sq) = false := by simpa using e0
    have u1 : (s.sq == t.sq) = true := by simpa using e0
    have u2 : (s.fe != t.fe) = true := by simpa using e1
    have u3 : (s.fe == t.fe) = false := by simpa using e1
    have Hn : Hid (¬ s = t) := Lib.hid (fun h => e1 (by rw [h]))
    clear e0 e1
    go_enter Tryz.func11, Tryz.ntmps11
    go_wp2
    go_ret
    exact ⟨false, by simp [Hn.out], rfl, BW.out _ _⟩
  have u0 : (s.sq != t.sq) = false := by simpa using e0
  have u1 : (s.sq == t.sq) = true := by simpa using e0
  have u2 : (s.fe != t.fe) = false := by simpa using e1
  have u3 : (s.fe == t.fe) = true := by simpa using e1
  have E0 := Lib.hid e0; have E1 := Lib.hid e1
  clear e0 e1
  go_enter Tryz.func11, Tryz.ntmps11
  go_wp2_with fail
  refine (eqEntryS_any A D c d s.ents t.ents B _ (Sl.below H.out.1 (BW.out _ _) hB) (Sl.below K.out.1 (BW.out _ _) hB) (by simp; omega) hl kl).mono ?_
  rintro e w1 ⟨b1, hb1, rfl, hB1⟩
  have ca : Cells w1 w.heap.size 0 [.int .i64 s.sq, .int .i64 s.fe, .slice A s.ents.length c, .slice A2 s.tmbs.length c2, .int .i64 s.lo.a, .int .i64 s.lo.b, .int .i64 s.lo.c, .int .i64 s.hi.a, .int .i64 s.hi.b, .int .i64 s.hi.c] := fun j v hv => by
    rw [Nat.zero_add]
    match j, hv with
    | 0, hv => simp only [List.getElem?_cons_zero, List.getElem?_cons_succ, Option.some.injEq] at hv; subst hv; rw [hB1.cell (by simp <;> omega)]; simp [go_sem]
    | 1, hv => simp only [List.getElem?_cons_zero, List.getElem?_cons_succ, Option.some.injEq] at hv; subst hv; rw [hB1.cell (by simp <;> omega)]; simp [go_sem]
    | 2, hv => simp only [List.getElem?_cons_zero, List.getElem?_cons_succ, Option.some.injEq] at hv; subst hv; rw [hB1.cell (by simp <;> omega)]; simp [go_sem]
    | 3, hv => simp only [List.getElem?_cons_zero, List.getElem?_cons_succ, Option.some.injEq] at hv; subst hv; rw [hB1.cell (by simp <;> omega)]; simp [go_sem]
    | 4, hv => simp only [List.getElem?_cons_zero, List.getElem?_cons_succ, Option.some.injEq] at hv; subst hv; rw [hB1.cell (by simp <;> omega)]; simp [go_sem]
    | 5, hv => simp only [List.getElem?_cons_zero, List.getElem?_cons_succ, Option.some.injEq] at hv; subst hv; rw [hB1.cell (by simp <;> omega)]; simp [go_sem]
    | 6, hv => simp only [List.getElem?_cons_zero, List.getElem?_cons_succ, Option.some.injEq] at hv; subst hv; rw [hB1.cell (by simp <;> omega)]; simp [go_sem]
    | 7, hv => simp only [List.getElem?_cons_zero, List.getElem?_cons_succ, Option.some.injEq] at hv; subst hv; rw [hB1.cell (by simp <;> omega)]; simp [go_sem]
    | 8, hv => simp only [List.getElem?_cons_zero, List.getElem?_cons_succ, Option.some.injEq] at hv; subst hv; rw [hB1.cell (by simp <;> omega)]; simp [go_sem]
    | 9, hv => simp only [List.getElem?_cons_zero, List.getElem?_cons_succ, Option.some.injEq] at hv; subst hv; rw [hB1.cell (by simp <;> omega)]; simp [go_sem]
    | j + 10, hv => simp at hv
  have cb : Cells w1 (w.heap.size + 1) 0 [.int .i64 t.sq, .int .i64 t.fe, .slice D t.ents.length d, .slice D2 t.tmbs.length d2, .int .i64 t.lo.a, .int .i64 t.lo.b, .int .i64 t.lo.c, .int .i64 t.hi.a, .int .i64 t.hi.b, .int .i64 t.hi.c] := fun j v hv => by
    rw [Nat.zero_add]
    match j, hv with
    | 0, hv => simp only [List.getElem?_cons_zero, List.getElem?_cons_succ, Option.some.injEq] at hv; subst hv; rw [hB1.cell (by simp <;> omega)]; simp [go_sem]
    | 1, hv => simp only [List.getElem?_cons_zero, List.getElem?_cons_succ, Option.some.injEq] at hv; subst hv; rw [hB1.cell (by simp <;> omega)]; simp [go_sem]
    | 2, hv => simp only [List.getElem?_cons_zero, List.getElem?_cons_succ, Option.some.injEq] at hv; subst hv; rw [hB1.cell (by simp <;> omega)]; simp [go_sem]
    | 3, hv => simp only [List.getElem?_cons_zero, List.getElem?_cons_succ, Option.some.injEq] at hv; subst hv; rw [hB1.cell (by simp <;> omega)]; simp [go_sem]
    | 4, hv => simp only [List.getElem?_cons_zero, List.getElem?_cons_succ, Option.some.injEq] at hv; subst hv; rw [hB1.cell (by simp <;> omega)]; simp [go_sem]
    | 5, hv => simp only [List.getElem?_cons_zero, List.getElem?_cons_succ, Option.some.injEq] at hv; subst hv; rw [hB1.cell (by simp <;> omega)]; simp [go_sem]
    | 6, hv => simp only [List.getElem?_cons_zero, List.getElem?_cons_succ, Option.some.injEq] at hv; subst hv; rw [hB1.cell (by simp <;> omega)]; simp [go_sem]
    | 7, hv => simp only [List.getElem?_cons_zero, List.getElem?_cons_succ, Option.some.injEq] at hv; subst hv; rw [hB1.cell (by simp <;> omega)]; simp [go_sem]
    | 8, hv => simp only [List.getElem?_cons_zero, List.getElem?_cons_succ, Option.some.injEq] at hv; subst hv; rw [hB1.cell (by simp <;> omega)]; simp [go_sem]
    | 9, hv => simp only [List.getElem?_cons_zero, List.getElem?_cons_succ, Option.some.injEq] at hv; subst hv; rw [hB1.cell (by simp <;> omega)]; simp [go_sem]
    | j + 10, hv => simp at hv
  have hbw : Below w.heap.size w w1 := (BW.out _ _).trans (hB1.mono (by simp <;> omega))
  have hsz : w.heap.size + 2 ≤ w1.heap.size := by have := hB1.size; simp at this; omega
  clear hB1 BW
  have CA := Lib.hid ca; have CB := Lib.hid cb; clear ca cb
  cases b1
  · have Hn : Hid (¬ s = t) := Lib.hid (fun h => by have := hb1.2 (by rw [h]); cases this)
    clear hb1
    go_wp2
    go_ret
    exact ⟨false, by simp [Hn.out], rfl, hbw⟩
  have E2 := Lib.hid (hb1.1 rfl); clear hb1
  have hB0 : Hid (B ≤ w.heap.size) := Lib.hid hB
  clear hB
  generalize hx0 : w.heap.size = x0 at *
  have Hx0 := Lib.hid hx0; clear hx0
  have p3 := CA.out 3 _ rfl
  have q3 := CB.out 3 _ rfl
  simp only [Nat.zero_add] at p3 q3
  go_wp2_with fail
  refine (eqTombS_any A2 D2 c2 d2 s.tmbs t.tmbs B _ (Sl.below H.out.2 hbw hB0.out) (Sl.below K.out.2 hbw hB0.out) (by have := hB0.out; omega) hl2 kl2).mono ?_
  rintro e w2 ⟨b1, hb1, rfl, hB1⟩
  have CA2 : Hid (Cells w2 x0 0 [.int .i64 s.sq, .int .i64 s.fe, .slice A s.ents.length c, .slice A2 s.tmbs.length c2, .int .i64 s.lo.a, .int .i64 s.lo.b, .int .i64 s.lo.c, .int .i64 s.hi.a, .int .i64 s.hi.b, .int .i64 s.hi.c]) := Lib.hid (CA.out.below hB1 (by omega))
  have CB2 : Hid (Cells w2 (x0 + 1) 0 [.int .i64 t.sq, .int .i64 t.fe, .slice D t.ents.length d, .slice D2 t.tmbs.length d2, .int .i64 t.lo.a, .int .i64 t.lo.b, .int .i64 t.lo.c, .int .i64 t.hi.a, .int .i64 t.hi.b, .int .i64 t.hi.c]) := Lib.hid (CB.out.below hB1 (by omega))
  have hbw2 : Below x0 w w2 := hbw.trans (hB1.mono (by omega))
  have hsz2 : x0 + 2 ≤ w2.heap.size := by have := hB1.size; omega
  clear CA CB hB1 hbw hsz p3 q3
  cases b1
  · have Hn : Hid (¬ s = t) := Lib.hid (fun h => by have := hb1.2 (by rw [h]); cases this)
    clear hb1
    go_wp2
    go_ret
    exact ⟨false, by simp [Hn.out], rfl, by rw [Hx0.out]; exact hbw2⟩
  have E3 := Lib.hid (hb1.1 rfl); clear hb1
  rename Hid (Cells _ x0 0 _) => CA
  rename Hid (Cells _ (x0 + 1) 0 _) => CB
  have hbw := hbw2; have hsz := hsz2; clear hbw2 hsz2
  have p4 := CA.out 4 _ rfl
  have p5 := CA.out 5 _ rfl
  have p6 := CA.out 6 _ rfl
  have q4 := CB.out 4 _ rfl
  have q5 := CB.out 5 _ rfl
  have q6 := CB.out 6 _ rfl
  simp only [Nat.zero_add] at p4 p5 p6 q4 q5 q6
  go_wp2_with fail
  refine (eqIntA3_any s.lo t.lo _).mono ?_
  rintro e w3 ⟨b1, hb1, rfl, hB1⟩
  have CA3 : Hid (Cells w3 x0 0 [.int .i64 s.sq, .int .i64 s.fe, .slice A s.ents.length c, .slice A2 s.tmbs.length c2, .int .i64 s.lo.a, .int .i64 s.lo.b, .int .i64 s.lo.c, .int .i64 s.hi.a, .int .i64 s.hi.b, .int .i64 s.hi.c]) := Lib.hid (CA.out.below hB1 (by omega))
  have CB3 : Hid (Cells w3 (x0 + 1) 0 [.int .i64 t.sq, .int .i64 t.fe, .slice D t.ents.length d, .slice D2 t.tmbs.length d2, .int .i64 t.lo.a, .int .i64 t.lo.b, .int .i64 t.lo.c, .int .i64 t.hi.a, .int .i64 t.hi.b, .int .i64 t.hi.c]) := Lib.hid (CB.out.below hB1 (by omega))
  have hbw3 : Below x0 w w3 := hbw.trans (hB1.mono (by omega))
  have hsz3 : x0 + 2 ≤ w3.heap.size := by have := hB1.size; omega
  clear CA CB hB1 hbw hsz p4 p5 p6 q4 q5 q6
  cases b1
  · have Hn : Hid (¬ s = t) := Lib.hid (fun h => by have := hb1.2 (by rw [h]); cases this)
    clear hb1
    go_wp2
    go_ret
    exact ⟨false, by simp [Hn.out], rfl, by rw [Hx0.out]; exact hbw3⟩
  have E4 := Lib.hid (hb1.1 rfl); clear hb1
  rename Hid (Cells _ x0 0 _) => CA
  rename Hid (Cells _ (x0 + 1) 0 _) => CB
  have hbw := hbw3; have hsz := hsz3; clear hbw3 hsz3
  have p7 := CA.out 7 _ rfl
  have p8 := CA.out 8 _ rfl
  have p9 := CA.out 9 _ rfl
  have q7 := CB.out 7 _ rfl
  have q8 := CB.out 8 _ rfl
  have q9 := CB.out 9 _ rfl
  simp only [Nat.zero_add] at p7 p8 p9 q7 q8 q9
  go_wp2_with fail
  refine (eqIntA3_any s.hi t.hi _).mono ?_
  rintro e w4 ⟨b1, hb1, rfl, hB1⟩
  have CA4 : Hid (Cells w4 x0 0 [.int .i64 s.sq, .int .i64 s.fe, .slice A s.ents.length c, .slice A2 s.tmbs.length c2, .int .i64 s.lo.a, .int .i64 s.lo.b, .int .i64 s.lo.c, .int .i64 s.hi.a, .int .i64 s.hi.b, .int .i64 s.hi.c]) := Lib.hid (CA.out.below hB1 (by omega))
  have CB4 : Hid (Cells w4 (x0 + 1) 0 [.int .i64 t.sq, .int .i64 t.fe, .slice D t.ents.length d, .slice D2 t.tmbs.length d2, .int .i64 t.lo.a, .int .i64 t.lo.b, .int .i64 t.lo.c, .int .i64 t.hi.a, .int .i64 t.hi.b, .int .i64 t.hi.c]) := Lib.hid (CB.out.below hB1 (by omega))
  have hbw4 : Below x0 w w4 := hbw.trans (hB1.mono (by omega))
  have hsz4 : x0 + 2 ≤ w4.heap.size := by have := hB1.size; omega
  clear CA CB hB1 hbw hsz p7 p8 p9 q7 q8 q9
  cases b1
  · have Hn : Hid (¬ s = t) := Lib.hid (fun h => by have := hb1.2 (by rw [h]); cases this)
    clear hb1
    go_wp2
    go_ret
    exact ⟨false, by simp [Hn.out], rfl, by rw [Hx0.out]; exact hbw4⟩
  have E5 := Lib.hid (hb1.1 rfl); clear hb1
  have Hy : Hid (s = t) := Lib.hid (by
    have h0 := E0.out; have h1 := E1.out; have h2 := E2.out; have h3 := E3.out; have h4 := E4.out; have h5 := E5.out
    clear H K CA4 CB4
    cases s; cases t
    simp at h0 h1 h2 h3 h4 h5
    simp [h0, h1, h2, h3, h4, h5])
  go_wp2
  go_ret
  exact ⟨true, by simp [Hy.out], rfl, by rw [Hx0.out]; exact hbw4⟩

/-- the state whose lists are marks -/
def GSt.marks (k : Int) (s : GSt) : GSt := { s with ents := marksEnt k s.ents.length, tmbs := marksTmb (k + 4 * s.ents.length) s.tmbs.length }

theorem markState_any (A : Option Addr) (c : Nat) (A2 : Option Addr) (c2 : Nat) (s : GSt) (k : Int) (w : World) (h : StAt w w.heap.size A A2 s) (x : Nat) (hO : StOwn x w A A2) (hl : s.ents.length ≤ 1048576) (hl2 : s.tmbs.length ≤ 1048576) (hk0 : 0 ≤ k) (hk : k ≤ 16777216) :
    Calls Tryz.prog 12 #[.agg #[.int .i64 s.sq, .int .i64 s.fe, .slice A s.ents.length c, .slice A2 s.tmbs.length c2, .int .i64 s.lo.a, .int .i64 s.lo.b, .int .i64 s.lo.c, .int .i64 s.hi.a, .int .i64 s.hi.b, .int .i64 s.hi.c], .int .i64 k] w fun e w' => e = .returned (.int .i64 (k + 4 * s.ents.length + 2 * s.tmbs.length)) ∧ StAt w' w'.heap.size A A2 (s.marks k) ∧ StOwn x w' A A2 ∧ (∃ w1, w.grownBy w1 (blk A) ∧ w1.grownBy w' (blk A2)) := by
  have H := Lib.hid h; clear h
  have HO := Lib.hid hO; clear hO
  go_enter Tryz.func12, Tryz.ntmps12
  go_wp2_with fail
  refine (markEntryS_any A c k s.ents w.heap.size _ (Sl.below H.out.1 (bal (Below.refl _ _) _) (Nat.le_refl _)) (HO.out.1.below (bal (Below.refl _ _) _) (fun b e => (HO.out.2.2.1 b e).2)) (by simp) (by omega) hk0 (by omega)).mono ?_
  rintro e w1 ⟨rfl, ho, hg, hf⟩
  have hsz : w.heap.size < w1.heap.size := by have := hg.size; simp at this; omega
  have c3 : w1.cell? ⟨w.heap.size, 3, none⟩ = some (.slice A2 s.tmbs.length c2) := by
    rw [World.cell?_of_block (a := ⟨w.heap.size, 3, none⟩) (hg.block w.heap.size (by simp) (fun e => by have := (HO.out.2.2.1 _ e.symm).2; omega))]
    simp [go_sem]
  have hg1 : w.grownBy w1 (blk A) := grown_trans (World.grownBy_alloc w _ _) hg
  have hT : TmbsAt w1 w.heap.size A2 s.tmbs := Sl.grown H.out.2 hg1 (Nat.le_refl _) (by
    by_cases e : blk A2 = none
    · exact Or.inl e
    · right
      intro e'
      obtain ⟨b, hb⟩ := Option.ne_none_iff_exists'.1 e
      exact HO.out.2.2.2.2 b (e'.symm.trans hb) hb)
  have hF2 : Free w1 A2 := fun b e i => by
    have hb := HO.out.2.2.2.1 b e
    have hbl := hg1.block b hb.2 (fun e' => HO.out.2.2.2.2 b e'.symm e)
    have := HO.out.2.1 b e i
    unfold World.frozen? at this ⊢
    rw [hbl]
    exact this
  have Ho := Lib.hid ho; have Hf := Lib.hid hf; have HT := Lib.hid hT; have HF2 := Lib.hid hF2
  clear ho hf hT hF2 hg
  go_wp2_with fail
  refine (markTombS_any A2 c2 (k + 4 * s.ents.length) s.tmbs w.heap.size _ HT.out HF2.out (by omega) (by omega) (by omega) (by omega)).mono ?_
  rintro e w2 ⟨rfl, ho2, hg2, hf2⟩
  have hE : EntsAt w2 w.heap.size A (marksEnt k s.ents.length) := Sl.grown Ho.out hg2 (by omega) (by
    by_cases e : blk A = none
    · exact Or.inl e
    · right
      intro e'
      obtain ⟨b, hb⟩ := Option.ne_none_iff_exists'.1 e
      exact HO.out.2.2.2.2 b hb (e'.symm.trans hb))
  have hF1 : Free w2 A := fun b e i => by
    have hb := HO.out.2.2.1 b e
    have hbl := hg2.block b (by omega) (fun e' => HO.out.2.2.2.2 b e e'.symm)
    have := Hf.out b e i
    unfold World.frozen? at this ⊢
    rw [hbl]
    exact this
  have hs2 : w.heap.size < w2.heap.size := by have := hg2.size; omega
  have FIN : Hid (StAt w2 w2.heap.size A A2 (s.marks k) ∧ StOwn x w2 A A2 ∧ ∃ w1, w.grownBy w1 (blk A) ∧ w1.grownBy w2 (blk A2)) := Lib.hid
    ⟨⟨Sl.more hE (by omega), Sl.more ho2 (by omega)⟩, ⟨hF1, hf2, fun b e => by have := HO.out.2.2.1 b e; omega, fun b e => by have := HO.out.2.2.2.1 b e; omega, HO.out.2.2.2.2⟩, w1, hg1, hg2⟩
  clear hE hF1 ho2 hg2 hf2 Ho Hf HT HF2 c3
  go_wp2
  go_ret
  exact ⟨rfl, FIN.out⟩

theorem heldState_any (A : Option Addr) (c : Nat) (A2 : Option Addr) (c2 : Nat) (s : GSt) (k : Int) (B : Nat) (w : World) (h : StAt w B A A2 (s.marks k)) (hB : B ≤ w.heap.size) (hl : s.ents.length ≤ 1048576) (hl2 : s.tmbs.length ≤ 1048576) (hk0 : 0 ≤ k) (hk : k ≤ 16777216) :
    Calls Tryz.prog 13 #[.agg #[.int .i64 s.sq, .int .i64 s.fe, .slice A s.ents.length c, .slice A2 s.tmbs.length c2, .int .i64 s.lo.a, .int .i64 s.lo.b, .int .i64 s.lo.c, .int .i64 s.hi.a, .int .i64 s.hi.b, .int .i64 s.hi.c], .int .i64 k] w fun e w' => e = .returned (.int .i64 (k + 4 * s.ents.length + 2 * s.tmbs.length)) ∧ Below w.heap.size w w' := by
  have H := Lib.hid h; clear h
  have u1 : decide (k + 4 * (s.ents.length : Int) < 0) = false := by simp; omega
  have u2 : decide (k + 4 * (s.ents.length : Int) + 2 * (s.tmbs.length : Int) < 0) = false := by simp; omega
  go_enter Tryz.func13, Tryz.ntmps13
  go_wp2_with fail
  refine (heldEntryS_any A c s.ents.length k B _ (Sl.below H.out.1 (bal (Below.refl _ _) _) hB) (by simp; omega) (by omega) hk0 (by omega)).mono ?_
  rintro e w1 ⟨rfl, hb1⟩
  have c3 : w1.cell? ⟨w.heap.size, 3, none⟩ = some (.slice A2 s.tmbs.length c2) := by rw [hb1.cell (by simp)]; simp [go_sem]
  have hb2 := bnext (bal (Below.refl _ _) _) hb1
  have hB1 : B ≤ w1.heap.size := by have := hb2.size; omega
  clear hb1
  go_wp2_with fail
  refine (heldTombS_any A2 c2 s.tmbs.length (k + 4 * s.ents.length) B _ (Sl.below H.out.2 hb2 hB) hB1 (by omega) (by omega) (by omega)).mono ?_
  rintro e w2 ⟨rfl, hb3⟩
  have hb4 := bnext hb2 hb3
  clear hb3 c3
  go_wp2
  go_ret
  exact ⟨rfl, hb4⟩

end Go.Proofs.YtpfanmcjlfdaiaaGreatDoorR
