/-
  A slice that came in, opened: whatever its element, each as so many cells; a slice of objects; a store. No Go text is walked here.
-/
import Derived.Test.YtpgilbmajbpdkaaIntSet
import Derived.Deep.Slices
import Derived.Deep.Fields
import Derived.Deep.Strs
import Derived.Lib.SmallJoins
namespace Go.Proofs.Ytpgilbmajbpdkaa
open Go.ChangeShapes Go.WideShapes Go.ChangeAt Go.RowKit Go.Deep Go.Joins
set_option linter.unusedVariables false

theorem list_of {α : Type} {P : Nat → α → Prop} : ∀ n, (∀ i, i < n → ∃ a, P i a) → ∃ xs : List α, xs.length = n ∧ ∀ i (h : i < xs.length), P i xs[i]
  | 0, _ => ⟨[], rfl, fun i h => by simp at h⟩
  | n + 1, h => by
    obtain ⟨xs, hl, hx⟩ := list_of n (fun i hi => h i (by omega))
    obtain ⟨a, ha⟩ := h n (by omega)
    refine ⟨xs ++ [a], by simp [hl], fun i hi => ?_⟩
    by_cases e : i < xs.length
    · rw [List.getElem_append_left e]; exact hx i e
    · have : i = n := by simp at hi; omega
      subst this
      rw [List.getElem_append_right (by omega)]
      simpa [hl] using ha

theorem add_none (b off i : Nat) : (Addr.mk b off none).add i = ⟨b, off + i, none⟩ := by
  unfold Addr.add
  split
  · rename_i h; subst h; rfl
  · rfl

section

variable {H : Type} {enc : TypeId × Value → H} {P : Program} {w : World} {base : Nat} {spare : Nat → Bool} {held : Bool}

theorem open_sl {α : Type} (f : α → List Value) (m : Nat) (Q : α → Prop) {t e : TypeId} {fuel : Nat} {v : Value} {x : DataW H × List MemPlace} (ht : P.underlying t = some (.slice e)) (hm : P.cellsOf e = m) (hm0 : 0 < m)
    (hdec : ∀ (n : Nat) (cs : List Value) (y : DataW H × List MemPlace), cs.length = m → DataW.trod enc P w base spare held n e cs = some y → ∃ a, cs = f a ∧ Q a)
    (h : DataW.trod enc P w base spare held fuel t [v] = some x) :
    ∃ (A : Option Addr) (c : Nat) (xs : List α), v = .slice A xs.length c ∧ Sl f m w w.heap.size A xs ∧ (∀ a ∈ xs, Q a) ∧ xs.length ≤ maxLen := by
  rcases open_slice ht h with ⟨h0, _⟩ | ⟨a, len, cap, m', n, D, Pl, hcs, hb, hl, hmx, hmm, hx, hi⟩
  · simp at h0
    exact ⟨none, 0, [], by simpa using h0, Sl.nil, by simp, Nat.zero_le _⟩
  · simp at hcs
    subst hcs
    have hlm : len ≤ m' := by rw [hmm]; split <;> omega
    have hel : ∀ i, i < len → ∃ o : α, Q o ∧ ∀ j u, (f o)[j]? = some u → w.cell? (a.add (i * m + j)) = some u := by
      intro i hil
      obtain ⟨cs', hc, htr⟩ := hi i (by omega)
      rw [hm] at hc
      obtain ⟨_, hcl, hat⟩ := World.cells?_some hc
      obtain ⟨o, rfl, hq⟩ := hdec _ _ _ hcl htr
      refine ⟨o, hq, fun j u hu => ?_⟩
      have hj : j < m := by rw [← hcl]; exact (List.getElem?_eq_some_iff.1 hu).1
      rw [← Go.Deep.add_add, hat j hj, hu]
    obtain ⟨xs, hxl, hxs⟩ := list_of len hel
    subst hxl
    refine ⟨some a, cap, xs, rfl, ?_, ?_, by omega⟩
    · intro hne
      have h0 : 0 < xs.length := List.length_pos_iff.2 hne
      obtain ⟨b, off, spot⟩ := a
      obtain ⟨cs', hc, _⟩ := hi 0 (by omega)
      rw [hm] at hc
      obtain ⟨_, hcl, hat⟩ := World.cells?_some hc
      have hc0 := hat 0 hm0
      rw [List.getElem?_eq_getElem (by omega)] at hc0
      have hsp : spot = none := by simpa [Addr.add] using World.cell?_spot hc0
      subst hsp
      have hbl : b < w.heap.size := by simpa [Addr.add] using World.block_lt_of_cell? w _ hc0
      refine ⟨b, off, rfl, hbl, fun k hk j u hu => ?_⟩
      have := (hxs k hk).2 j u hu
      rw [add_none] at this
      rw [← this]
      congr 2
      omega
    · intro o ho
      obtain ⟨i, hi', rfl⟩ := List.mem_iff_getElem.1 ho
      exact (hxs i hi').1

end

theorem cellsLObj : Try.prog.cellsOf 100 = 3 := by kernel_rfl

theorem cellsLStore : Try.prog.cellsOf 51 = 2 := by kernel_rfl

theorem cellsInt : Try.prog.cellsOf 3 = 1 := by kernel_rfl

theorem cellsString : Try.prog.cellsOf 9 = 1 := by kernel_rfl

section

variable {H : Type} {enc : TypeId × Value → H} {w : World} {base : Nat} {spare : Nat → Bool} {held : Bool}

theorem open_obj' {P : Program} {t : TypeId} {f0 f1 f2 : Field} {n : Nat} {cs : List Value} {y : DataW H × List MemPlace} (ht : P.underlying t = some (.struct #[f0, f1, f2])) (hone : oneCellFields P #[f0, f1, f2] = true)
    (g0 : P.underlying f0.type = some .string) (g1 : P.underlying f1.type = some (.int .i64)) (g2 : P.underlying f2.type = some .string) (hl : cs.length = 3) (h : DataW.trod enc P w base spare held n t cs = some y) : ∃ o : GObj, cs = o.vals ∧ o.fit := by
  obtain ⟨y0, y1, y2, m, _, _, h0, h1, h2⟩ := trod_struct3 ht h
  obtain ⟨o0, k0⟩ := hone_of hone 0 f0 rfl
  obtain ⟨o1, k1⟩ := hone_of hone 1 f1 rfl
  obtain ⟨o2, k2⟩ := hone_of hone 2 f2 rfl
  match cs, hl with
  | [a, b, c], _ =>
    rw [o0, k0] at h0
    rw [o1, k1] at h1
    rw [o2, k2] at h2
    obtain ⟨s0, e0, _, l0⟩ := DataW.trod_string g0 h0
    obtain ⟨z1, e1, _, l1⟩ := DataW.trod_int g1 h1
    obtain ⟨s2, e2, _, l2⟩ := DataW.trod_string g2 h2
    simp at e0 e1 e2
    subst e0 e1 e2
    exact ⟨⟨s0, z1, s2⟩, rfl, ⟨l0, l2⟩, l1⟩

theorem open_store' {P : Program} {t e : TypeId} {f0 f1 g0 g1 g2 : Field} {W : World} {r : Reach} {b0 : Nat} {v : Value} {d : DataW H} {p : List MemPlace} (ht : P.underlying t = some (.struct #[f0, f1])) (hone : oneCellFields P #[f0, f1] = true) (hC : P.cellsOf t = 2)
    (hs : P.underlying f0.type = some (.slice e)) (hn : P.underlying f1.type = some (.int .i64)) (he : P.underlying e = some (.struct #[g0, g1, g2])) (hone2 : oneCellFields P #[g0, g1, g2] = true) (hce : P.cellsOf e = 3)
    (k0 : P.underlying g0.type = some .string) (k1 : P.underlying g1.type = some (.int .i64)) (k2 : P.underlying g2.type = some .string)
    (hv : Value.okWide P W r b0 t v) (h : DataW.Trod enc P W base spare held t v d p) :
    ∃ (A : Option Addr) (c : Nat) (xs : List GObj) (next : Int), v = .agg #[.slice A xs.length c, .int .i64 next] ∧ ObjsAt W W.heap.size A xs ∧ (∀ o ∈ xs, o.fit) ∧ xs.length ≤ maxLen ∧ (Lit.int .i64 next).wf = true := by
  obtain ⟨c0, c1, y0, y1, m, rfl, _, _, h0, h1⟩ := open_agg2 ht hone hC hv h
  obtain ⟨z1, e1, _, l1⟩ := DataW.trod_int hn h1
  obtain ⟨A, c, xs, rfl, hs, hq, hl⟩ := open_sl GObj.vals 3 GObj.fit hs hce (by omega) (fun n cs y hc hy => open_obj' he hone2 k0 k1 k2 hc hy) h0
  simp at e1
  subst e1
  exact ⟨A, c, xs, z1, rfl, hs, hq, hl, l1⟩

set_option maxRecDepth 100000 in
theorem open_store {W : World} {r : Reach} {b0 : Nat} {v : Value} {d : DataW H} {p : List MemPlace} (hv : Value.okWide Try.prog W r b0 51 v) (h : DataW.Trod enc Try.prog W base spare held 51 v d p) :
    ∃ (A : Option Addr) (c : Nat) (xs : List GObj) (next : Int), v = .agg #[.slice A xs.length c, .int .i64 next] ∧ ObjsAt W W.heap.size A xs ∧ (∀ o ∈ xs, o.fit) ∧ xs.length ≤ maxLen ∧ (Lit.int .i64 next).wf = true :=
  open_store' Try.underlying51 (by kernel_rfl) cellsLStore Try.underlying49 Try.underlying3 Try.underlying100 (by kernel_rfl) cellsLObj Try.underlying9 Try.underlying3 Try.underlying9 hv h

end

end Go.Proofs.Ytpgilbmajbpdkaa
