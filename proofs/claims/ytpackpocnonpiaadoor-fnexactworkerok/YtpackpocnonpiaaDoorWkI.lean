/-
  What makes a worker right, and contracts of the program's entriesRight, tokenRight, jobRight, right and WorkerOK. Conditions: sizes of keys, lengths, the table of paths.
-/
import Derived.Test.YtpackpocnonpiaaDoorWrk
import Derived.Test.YtpackpocnonpiaaDoorRecD
import Derived.Deep.MidRow
import Derived.Deep.DeepCutAuto
namespace Go.Proofs.YtpackpocnonpiaaDoor
open Go.ChangeShapes Go.WideShapes Go.ChangeAt Go.RowKit Go.Deep Go.Joins
set_option linter.unusedVariables false
set_option linter.unusedSimpArgs false

/-- the token of a worker is right by its phase -/
def TokP (s : GWrk) : Prop := inB s.tk 1 999999 = true ∨ (s.tk = 0 ∧ s.ph < 2)

/-- a job that is looked at is right -/
def JobP (s : GWrk) : Prop := inB s.ph 4 6 = true → ((s.job.kind = 3 ∨ (s.job.kind = 4 ∧ s.ph = 6)) ∧ s.job.tok = s.tk ∧ RecP s.job)

def InsP (s : GWrk) : Prop := s.ins.length ≤ 300 ∧ ∀ e ∈ s.ins, EntP e

/-- a worker is right -/
def WrkP (s : GWrk) : Prop := inB s.id 0 9 = true ∧ inB s.ph 0 7 = true ∧ TokP s ∧ JobP s ∧ InsP s ∧ AggP s.got ∧ s.got.cnt ≤ 1000

theorem isIdK_any (n : Int) (w : World) : Calls Tryd.prog 28 #[.int .i64 n] w fun e w' => e = .returned (.bool (inB n 0 9)) ∧ w = w' := by
  go_enter Tryd.func28, Tryd.ntmps28
  go_wp2_with (go_at_call 29; refine (within_any _ _ _ _).mono ?_; rintro e w' ⟨rfl, rfl⟩)
  go_ret
  exact ⟨rfl, rfl⟩

theorem wpList_load_midG {P : Program} {ops : Array Oper} {rest : List Oper} {op : Oper} {a : Act} {w : World} {Q : Exit → Act → World → Prop} (hw : Region.wanted op (yielded ops a.tmps) = true) (ty : TypeId) (x : Operand) (ho : op.op = .load ty x)
    (b o : Nat) (hx : a.eval x = .pointer (some ⟨b, o, none⟩)) (cs : List Value) (d : TypeDesc) (hc : w.rangeAt b o cs)
    (hu : P.underlying ty = some d) (hd : d.isRow = true) (hi : (P.info? ty).map (·.size) = some cs.length)
    (h : wpList P ops Q rest (a.put op.dst (.agg cs.toArray)) w) : wpList P ops Q (op :: rest) a w :=
  wpList_step fun K hK => by rw [if_pos hw]; exact wp_load_mid ty x ho b o hx cs d hc hu hd hi (hK _ _ h)

theorem infoWK : (Tryd.prog.info? 35).map (·.size) = some 16 := by kernel_rfl

theorem entNot_any (e : GEnt) (w : World) (hk : e.key.size ≤ 2 ^ 63 - 1) (hp : Paths w) (hz : 1 < w.heap.size) : Calls Tryd.prog 42 #[.agg #[.int .i64 e.tier, .int .i64 e.beg, .int .i64 e.fin, .string e.key]] w (IsBB (¬ EntP e) w) := by
  have HP : Hid (∀ w', Below w.heap.size w w' → Paths w' ∧ 1 < w'.heap.size) := Lib.hid (fun w' h => ⟨hp.below h hz, Nat.lt_of_lt_of_le hz h.size⟩)
  clear hp
  go_enter Tryd.func42, Tryd.ntmps42
  go_wp2_with fail
  have bb : Below w.heap.size w (w.alloc (.cells #[.int .i64 e.tier, .int .i64 e.beg, .int .i64 e.fin, .string e.key] 42)) := bal (Below.refl _ _) _
  generalize w.alloc (.cells #[.int .i64 e.tier, .int .i64 e.beg, .int .i64 e.fin, .string e.key] 42) = W at *
  refine (entRight_any e W hk (HP.out _ bb).1 (HP.out _ bb).2).mono ?_
  rintro r w1 ⟨b, hb, rfl, hb1⟩
  have Hb : Hid ((!b) = true ↔ ¬ EntP e) := Lib.hid (by rw [← hb]; simp)
  have b1 := bnext bb hb1
  clear hb hb1 bb
  go_wp2
  go_ret
  exact ⟨_, Hb.out, rfl, b1⟩

set_option maxRecDepth 100000 in
theorem indexNot_any (A : Option Addr) (c : Nat) (xs : List GEnt) (B : Nat) (w : World) (h : EntsAt w B A xs) (hB : B ≤ w.heap.size) (hl : xs.length ≤ 1048576) (hk : ∀ e ∈ xs, e.key.size ≤ 1048576) (hp : Paths w) (hz : 1 < w.heap.size) :
    Calls Tryd.prog 48 #[.slice A xs.length c, .func (.func 42) #[] #[]] w fun r w' => ∃ i : Int, (0 ≤ i ↔ ∃ e ∈ xs, ¬ EntP e) ∧ r = .returned (.int .i64 i) ∧ Below w.heap.size w w' := by
  have H := Lib.hid h; clear h
  have HK := Lib.hid hk; clear hk
  have HP : Hid (∀ w', Below w.heap.size w w' → Paths w' ∧ 1 < w'.heap.size) := Lib.hid (fun w' h => ⟨hp.below h hz, Nat.lt_of_lt_of_le hz h.size⟩)
  clear hp
  go_enter Tryd.func48, Tryd.ntmps48
  go_wp2_with fail
  go_loopw [8] (fun i wr => ∃ k : Nat, k ≤ xs.length ∧ i = .int .i64 k ∧ Hid (∀ e ∈ xs.take k, EntP e) ∧ Below w.heap.size w wr) (fun i _ => xs.length - (intOf i).toNat)
  case atStart => exact ⟨0, by omega, rfl, Lib.hid (by simp), Below.refl _ _⟩
  case round =>
    obtain ⟨k, hk, rfl, HN, hb⟩ := hrel
    by_cases hlt : k < xs.length
    · obtain ⟨b1, o1, rfl, hb1, p0, p1, p2, p3⟩ := EntsAt.one (Sl.below H.out hb hB) hlt
      have hks := HK.out _ (List.getElem_mem hlt)
      have HT : Hid (xs.take (k + 1) = xs.take k ++ [xs[k]]) := Lib.hid (List.take_succ_eq_append_getElem hlt)
      have HM : Hid (xs[k] ∈ xs) := Lib.hid (List.getElem_mem hlt)
      generalize xs[k] = e at *
      go_wp2_with fail
      refine (entNot_any e wr (by omega) (HP.out _ hb).1 (HP.out _ hb).2).mono ?_
      rintro r w3 ⟨v, hv, rfl, hb3⟩
      have b3 : Below w.heap.size w w3 := bnext hb hb3
      clear hb3 p0 p1 p2 p3
      cases v
      · have hN : ∀ e ∈ xs.take (k + 1), EntP e := by
          rw [HT.out]
          intro x hx
          rcases List.mem_append.1 hx with hx | hx
          · exact HN.out x hx
          · simp at hx; subst hx
            apply Classical.byContradiction
            intro h; have := hv.2 h; cases this
        have HN2 := Lib.hid hN; clear hN hv
        go_wp2_with fail
        go_roundw
        case rel => exact ⟨k + 1, by omega, by go_num, HN2, b3⟩
        case measure => simp [intOf]; omega
      · have HE : Hid (∃ e ∈ xs, ¬ EntP e) := Lib.hid ⟨e, HM.out, hv.1 rfl⟩
        clear hv
        go_wp2
        go_ret
        exact ⟨_, ⟨fun _ => HE.out, fun _ => by omega⟩, rfl, b3⟩
    · have hN : ∀ e ∈ xs, EntP e := by have := HN.out; rwa [List.take_of_length_le (by omega)] at this
      have HE : Hid (¬ ∃ e ∈ xs, ¬ EntP e) := Lib.hid (fun ⟨e, h1, h2⟩ => h2 (hN e h1))
      clear hN
      go_wp2
      go_ret
      exact ⟨_, ⟨fun h => absurd h (by decide), fun h => absurd h HE.out⟩, rfl, hb⟩

theorem containsNot_any (A : Option Addr) (c : Nat) (xs : List GEnt) (B : Nat) (w : World) (h : EntsAt w B A xs) (hB : B ≤ w.heap.size) (hl : xs.length ≤ 1048576) (hk : ∀ e ∈ xs, e.key.size ≤ 1048576) (hp : Paths w) (hz : 1 < w.heap.size) :
    Calls Tryd.prog 41 #[.slice A xs.length c, .func (.func 42) #[] #[]] w (IsBB (∃ e ∈ xs, ¬ EntP e) w) := by
  have HX := Lib.hid (indexNot_any A c xs B w h hB hl hk hp hz)
  clear h hk hp
  go_enter Tryd.func41, Tryd.ntmps41
  go_wp2_with fail
  refine HX.out.mono ?_
  rintro r w1 ⟨i, hi, rfl, hb⟩
  have Hi := Lib.hid hi; clear hi HX
  by_cases h0 : 0 ≤ i
  · have d : decide (i ≥ 0) = true := by simpa using h0
    have d' : decide (0 ≤ i) = true := by simpa using h0
    go_wp2
    go_ret
    exact ⟨_, by simp; exact Hi.out.1 h0, rfl, hb⟩
  · have d : decide (i ≥ 0) = false := by simpa using h0
    have d' : decide (0 ≤ i) = false := by simpa using h0
    have Hn : Hid (¬ ∃ e ∈ xs, ¬ EntP e) := Lib.hid (fun h => h0 (Hi.out.2 h))
    go_wp2
    go_ret
    exact ⟨false, ⟨fun h => (by cases h), fun h => absurd h Hn.out⟩, rfl, hb⟩

theorem entriesRight_any (A : Option Addr) (c : Nat) (xs : List GEnt) (B : Nat) (w : World) (h : EntsAt w B A xs) (hB : B ≤ w.heap.size) (hl : xs.length ≤ 1048576) (hk : ∀ e ∈ xs, e.key.size ≤ 1048576) (hp : Paths w) (hz : 1 < w.heap.size) :
    Calls Tryd.prog 32 #[.slice A xs.length c] w (IsBB (xs.length ≤ 300 ∧ ∀ e ∈ xs, EntP e) w) := by
  have HX := Lib.hid (containsNot_any A c xs B w h hB hl hk hp hz)
  clear h hk hp
  by_cases h3 : xs.length ≤ 300
  · have d : decide ((xs.length : Int) ≤ 300) = true := by simp; omega
    go_enter Tryd.func32, Tryd.ntmps32
    go_wp2_with fail
    refine HX.out.mono ?_
    rintro r w1 ⟨b, hb, rfl, hb1⟩
    have Hb : Hid ((!b) = true ↔ (xs.length ≤ 300 ∧ ∀ e ∈ xs, EntP e)) := Lib.hid (by
      constructor
      · intro hq
        refine ⟨h3, fun e he => Classical.byContradiction fun hn => ?_⟩
        have := hb.2 ⟨e, he, hn⟩
        subst this; cases hq
      · rintro ⟨_, h2⟩
        cases b
        · rfl
        · obtain ⟨e, he, hn⟩ := hb.1 rfl
          exact absurd (h2 e he) hn)
    clear hb HX
    go_wp2
    go_ret
    exact ⟨_, Hb.out, rfl, hb1⟩
  · have d : decide ((xs.length : Int) ≤ 300) = false := by simp; omega
    have Hn : Hid (¬ (xs.length ≤ 300 ∧ ∀ e ∈ xs, EntP e)) := Lib.hid (fun h => h3 h.1)
    clear HX
    go_enter Tryd.func32, Tryd.ntmps32
    go_wp2
    go_ret
    exact ⟨false, ⟨fun h => (by cases h), fun h => absurd h Hn.out⟩, rfl, Below.refl _ _⟩

set_option maxRecDepth 100000 in
theorem tokenRight_any (A : Option Addr) (c : Nat) (s : GWrk) (w : World) : Calls Tryd.prog 30 #[.agg #[.int .i64 s.id, .int .i64 s.ph, .int .i64 s.tk, .int .i64 s.job.kind, .int .i64 s.job.tok, .int .i64 s.job.tier, .int .i64 s.job.beg, .int .i64 s.job.fin, .string s.job.key, .slice A s.ins.length c, .int .i64 s.got.cnt, .int .i64 s.got.sum, .int .i64 s.got.mn, .int .i64 s.got.mx, .int .i64 s.got.fst, .int .i64 s.got.lst]] w (IsBB (TokP s) w) := by
  cases d : inB s.tk 1 999999
  · by_cases h0 : s.tk = 0
    · have e0 : (s.tk == 0) = true := by simpa using h0
      by_cases h2 : s.ph < 2
      · have e2 : decide (s.ph < 2) = true := by simpa using h2
        have HT : Hid (TokP s) := Lib.hid (.inr ⟨h0, h2⟩)
        have HD := Lib.hid d; clear d h0
        go_enter Tryd.func30, Tryd.ntmps30
        go_wp2_with fail
        refine (isToken_any _ _).mono ?_
        rintro e w1 ⟨rfl, rfl⟩
        rw [HD.out]
        go_wp2
        go_ret
        exact ⟨true, ⟨fun _ => HT.out, fun _ => rfl⟩, rfl, bal (Below.refl _ _) _⟩
      · have e2 : decide (s.ph < 2) = false := by simpa using h2
        have HT : Hid (¬ TokP s) := Lib.hid (by rintro (h | h); · rw [d] at h; cases h
                                                · exact h2 h.2)
        have HD := Lib.hid d; clear d h0
        go_enter Tryd.func30, Tryd.ntmps30
        go_wp2_with fail
        refine (isToken_any _ _).mono ?_
        rintro e w1 ⟨rfl, rfl⟩
        rw [HD.out]
        go_wp2
        go_ret
        exact ⟨false, ⟨fun h => (by cases h), fun h => absurd h HT.out⟩, rfl, bal (Below.refl _ _) _⟩
    · have e0 : (s.tk == 0) = false := by simpa using h0
      have HT : Hid (¬ TokP s) := Lib.hid (by rintro (h | h); · rw [d] at h; cases h
                                              · exact h0 h.1)
      have HD := Lib.hid d; clear d
      go_enter Tryd.func30, Tryd.ntmps30
      go_wp2_with fail
      refine (isToken_any _ _).mono ?_
      rintro e w1 ⟨rfl, rfl⟩
      rw [HD.out]
      go_wp2
      go_ret
      exact ⟨false, ⟨fun h => (by cases h), fun h => absurd h HT.out⟩, rfl, bal (Below.refl _ _) _⟩
  · have HT : Hid (TokP s) := Lib.hid (.inl d)
    have HD := Lib.hid d; clear d
    go_enter Tryd.func30, Tryd.ntmps30
    go_wp2_with fail
    refine (isToken_any _ _).mono ?_
    rintro e w1 ⟨rfl, rfl⟩
    rw [HD.out]
    go_wp2
    go_ret
    exact ⟨true, ⟨fun _ => HT.out, fun _ => rfl⟩, rfl, bal (Below.refl _ _) _⟩

end Go.Proofs.YtpackpocnonpiaaDoor
