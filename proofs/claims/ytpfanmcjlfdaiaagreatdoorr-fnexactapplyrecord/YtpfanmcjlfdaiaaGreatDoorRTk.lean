/-
  Two short moves of a walk through a drawn region: an operation is taken first; an operation whose guard is unmet is left out. Conditions: those of the library's move, as one Boolean.
-/
import Derived.OrdersHeld
import Derived.Deep.RegionHeld3
import Derived.Maps.RangeWalk
namespace Go.Proofs.YtpfanmcjlfdaiaaGreatDoorR
section
variable {P : Program} {ops : Array Oper} {Q : Exit → Act → World → Prop} {md : Region.Mode} {S : World → Prop}

def tkB (md : Region.Mode) (ops : Array Oper) (listed : Array Bool) (i : Nat) : Bool := Region.noSelect ops && (Region.free md ops listed i && (Region.ready md ops listed).contains i)

theorem kT {v : Value} {fuel : Nat} {listed : Array Bool} {a : Act} {w : World} {oi : Oper} {d : Nat} (i : Nat) (h : wpAnyH P md ops (NoPanic Q) S fuel (listed.setIfInBounds i true) (a.put (some d) v) w)
    (hi : ops[i]? = some oi := by rfl) (hd : oi.dst = some d := by rfl) (hb : tkB md ops listed i = true := by kernel_rfl) (hg : Region.wanted oi (yielded ops a.tmps) = true := by rfl)
    (hy : ∀ w, S w → (execOp a.eval oi).run P w = .ok (.value v) w := by intro w h; (try go_simp) <;> with_reducible rfl) (hS : S w := by assumption) : wpAnyH P md ops (NoPanic Q) S (fuel + 1) listed a w := by
  unfold tkB at hb
  simp only [Bool.and_eq_true] at hb
  exact wpAnyH_take hi hb.1 hb.2.1 hb.2.2 (fun _ _ _ h => h) (.inl ⟨hg, hy⟩) hS (hd ▸ h)

theorem kS {fuel : Nat} {listed : Array Bool} {a : Act} {w : World} {oi : Oper} {d : Nat} (i : Nat) (h : wpAnyH P md ops (NoPanic Q) S fuel (listed.setIfInBounds i true) (a.put (some d) undef) w)
    (hi : ops[i]? = some oi := by rfl) (hd : oi.dst = some d := by rfl) (hb : tkB md ops listed i = true := by kernel_rfl) (hg : Region.wanted oi (yielded ops a.tmps) = false := by rfl)
    (hS : S w := by assumption) : wpAnyH P md ops (NoPanic Q) S (fuel + 1) listed a w := by
  unfold tkB at hb
  simp only [Bool.and_eq_true] at hb
  exact wpAnyH_take hi hb.1 hb.2.1 hb.2.2 (fun _ _ _ h => h) (.inr ⟨hg, rfl⟩) hS (hd ▸ h)
end

end Go.Proofs.YtpfanmcjlfdaiaaGreatDoorR
