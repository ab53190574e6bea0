/-
  A slice cut out of a slice: what the instruction answers, and what it leads to. No Go text is walked here.
-/
import Derived.Test.YthcnlgjklbodjaaMem
import Derived.Test.YthcnlgjklbodjaaOpenSl
namespace Go.Proofs.Ythcnlgjklbodjaa
open Go.RowKit
set_option linter.unusedVariables false

/-- the address of a slice cut off at l -/
def cutA (A : Option Addr) (c l m : Nat) : Option Addr := if c = l then A else A.map (·.add (l * m))

theorem run_cut_both {P : Program} (t e : TypeId) (i : TypeInfo) (m : Nat) (ht : P.underlying t = some (.slice e)) (hi : P.info? e = some i) (hm : i.size = m) (A : Option Addr) (n c l h : Nat) (hl : l ≤ h) (hh : h ≤ c) (w : World) :
    (Instr.slice t (.slice A n c) (some (.int .i64 (l : Int))) (some (.int .i64 (h : Int))) none).run P w = .ok (.slice (cutA A c l m) (h - l) (c - l)) w := by
  simp [Instr.slice, run_underlying ht, Instr.sliceBounds, Instr.sliceBound, asIntOf, sizeOf, typeInfo, hi, hm, hl, hh, cutA]

theorem run_cut_to {P : Program} (t e : TypeId) (i : TypeInfo) (m : Nat) (ht : P.underlying t = some (.slice e)) (hi : P.info? e = some i) (hm : i.size = m) (A : Option Addr) (n c h : Nat) (hh : h ≤ c) (w : World) :
    (Instr.slice t (.slice A n c) none (some (.int .i64 (h : Int))) none).run P w = .ok (.slice (cutA A c 0 m) h c) w := by
  simp [Instr.slice, run_underlying ht, Instr.sliceBounds, Instr.sliceBound, asIntOf, sizeOf, typeInfo, hi, hh, cutA]

theorem run_cut_from {P : Program} (t e : TypeId) (i : TypeInfo) (m : Nat) (ht : P.underlying t = some (.slice e)) (hi : P.info? e = some i) (hm : i.size = m) (A : Option Addr) (n c l : Nat) (hl : l ≤ n) (w : World) :
    (Instr.slice t (.slice A n c) (some (.int .i64 (l : Int))) none none).run P w = .ok (.slice (cutA A c l m) (n - l) (c - l)) w := by
  simp [Instr.slice, run_underlying ht, Instr.sliceBounds, Instr.sliceBound, asIntOf, sizeOf, typeInfo, hi, hm, hl, cutA]

theorem Sl.cut {α : Type} {f : α → List Value} {m : Nat} {w : World} {B : Nat} {A : Option Addr} {xs : List α} (hs : Sl f m w B A xs) (c l h : Nat) (hh : h ≤ xs.length) (hc : xs.length ≤ c) : Sl f m w B (cutA A c l m) ((xs.take h).drop l) := by
  intro hn
  have hlt : l < h := by
    apply Classical.byContradiction
    intro hc
    exact hn (by rw [List.drop_eq_nil_iff]; simp; omega)
  obtain ⟨b, off, rfl, hb, hcl⟩ := hs (by rintro rfl; simp at hh; omega)
  have e : cutA (some ⟨b, off, none⟩) c l m = some ⟨b, off + l * m, none⟩ := by
    unfold cutA
    rw [if_neg (by omega), Option.map_some, add_none]
  refine ⟨b, off + l * m, e, hb, fun k hk => ?_⟩
  simp only [List.length_drop, List.length_take] at hk
  have := hcl (l + k) (by omega)
  rw [show off + (l + k) * m = off + l * m + k * m by rw [Nat.add_mul]; omega] at this
  simpa using this

end Go.Proofs.Ythcnlgjklbodjaa
