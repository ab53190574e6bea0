/-
  The program's tables of tiers as their texts lay them: from the condition of a row to what the contracts ask; a world that holds them; the variables read behind the call as they read before.
-/
import Derived.Test.YtnglfambcophpaaDoorTierA
import Derived.ChangeVars
import Derived.SevenTiedAt
import Derived.LaidOnce
import Derived.Lib.LaidTab
import Derived.WalkSmall
import Derived.Test.YtnglfambcophpaaDoorTie
namespace Go.Proofs.YtnglfambcophpaaDoor
open Go.ChangeShapes Go.WideShapes Go.ChangeAt Go.RowKit
set_option linter.unusedVariables false

theorem ownT : ownKnob Tryd.prog.godebug = none := by kernel_rfl
theorem laidOutT : laidOutB Tryd.prog = true := by kernel_rfl
theorem gWid : Tryd.prog.globalNamed "loop.example/g00601/impl.tierWidths" = some 0 := by kernel_rfl
theorem gWidType : (Tryd.prog.globals[0]?).map (·.type) = some 33 := by kernel_rfl
theorem gKep : Tryd.prog.globalNamed "loop.example/g00601/impl.tierKeeps" = some 1 := by kernel_rfl
theorem gKepType : (Tryd.prog.globals[1]?).map (·.type) = some 33 := by kernel_rfl
theorem cellsTri : Tryd.prog.cellsOf 33 = 3 := by kernel_rfl
theorem cellsInt : Tryd.prog.cellsOf 3 = 1 := by kernel_rfl
theorem widData : (Rows.laid_loop_example_g00601_impl_tierWidths : DataW Unit) = Lib.tabData .i64 [1, 5, 20] := rfl
theorem kepData : (Rows.laid_loop_example_g00601_impl_tierKeeps : DataW Unit) = Lib.tabData .i64 [40, 100, 400] := rfl

theorem tab3_cells {W : World} {n : String} {g : Nat} {cs : Array Value} {zs : List Int} {f : Nat → Int} (hg : Tryd.prog.globalNamed n = some g) (hvar : W.var? Tryd.prog n = some cs) (hcs : cs.toList = zs.map fun z => Value.int .i64 z) (hf : ∀ i, i < 3 → zs[i]? = some (f i)) : Tab3 g f W ∧ g < W.heap.size := by
  have hp : Tab3 g f W := by
    intro i hi
    rw [World.var?_cell hg hvar i]
    have : cs[i]? = cs.toList[i]? := by simp
    rw [this, hcs, List.getElem?_map, hf i hi]
    rfl
  exact ⟨hp, World.block_lt_of_cell? W ⟨g, 0, none⟩ (hp 0 (by omega))⟩

theorem wid_at : ∀ i, i < 3 → ([1, 5, 20] : List Int)[i]? = some (wid i) := fun i hi => by rcases three hi with rfl | rfl | rfl <;> rfl

theorem kep_at : ∀ i, i < 3 → ([40, 100, 400] : List Int)[i]? = some (kep i) := fun i hi => by rcases three hi with rfl | rfl | rfl <;> rfl

theorem wid_of {W : World} {rest : List (String × DataW Unit)} (h : laidMet Tryd.prog (("loop.example/g00601/impl.tierWidths", Rows.laid_loop_example_g00601_impl_tierWidths) :: rest) W) : Tab3 0 wid W ∧ 0 < W.heap.size := by
  obtain ⟨ps, ⟨g', t', cs, fuel, p, q, hg', ht', hvar, hd, _, _⟩, _⟩ := h
  obtain rfl := Option.some.inj (gWid.symm.trans hg')
  obtain rfl := Option.some.inj (gWidType.symm.trans ht')
  rw [widData] at hd
  exact tab3_cells gWid hvar (Lib.cells_of_tab Tryd.underlying33 Tryd.underlying3 cellsInt cellsTri hd) wid_at

theorem kep_of {W : World} {rest : List (String × DataW Unit)} (h : laidMet Tryd.prog (("loop.example/g00601/impl.tierKeeps", Rows.laid_loop_example_g00601_impl_tierKeeps) :: rest) W) : Tab3 1 kep W ∧ 1 < W.heap.size := by
  obtain ⟨ps, ⟨g', t', cs, fuel, p, q, hg', ht', hvar, hd, _, _⟩, _⟩ := h
  obtain rfl := Option.some.inj (gKep.symm.trans hg')
  obtain rfl := Option.some.inj (gKepType.symm.trans ht')
  rw [kepData] at hd
  exact tab3_cells gKep hvar (Lib.cells_of_tab Tryd.underlying33 Tryd.underlying3 cellsInt cellsTri hd) kep_at

theorem kep_of2 {W : World} {n : String} {d : DataW Unit} {rest : List (String × DataW Unit)} (h : laidMet Tryd.prog ((n, d) :: ("loop.example/g00601/impl.tierKeeps", Rows.laid_loop_example_g00601_impl_tierKeeps) :: rest) W) : Tab3 1 kep W ∧ 1 < W.heap.size := by
  obtain ⟨ps, ⟨g1, t1, cs1, f1, p1, q1, _, _, _, _, ⟨g', t', cs, fuel, p, q, hg', ht', hvar, hd, _, _⟩, _⟩, _⟩ := h
  obtain rfl := Option.some.inj (gKep.symm.trans hg')
  obtain rfl := Option.some.inj (gKepType.symm.trans ht')
  rw [kepData] at hd
  exact tab3_cells gKep hvar (Lib.cells_of_tab Tryd.underlying33 Tryd.underlying3 cellsInt cellsTri hd) kep_at

/-- variables that are tables of three numbers read behind the call as they read ahead of it -/
theorem vars_back3 {H : Type} {enc : TypeId × Value → H} {W W' : World} (hb : Below W.heap.size W W') : ∀ (ns : List String) (gs : List (DataW H)) (q : List MemPlace), (∀ n ∈ ns, ∃ g, Tryd.prog.globalNamed n = some g ∧ (Tryd.prog.globals[g]?).map (·.type) = some 33 ∧ g < W.heap.size) →
    DataW.TrodVars enc Tryd.prog W (fun _ => true) ns gs q → (∀ x ∈ q, x.block < W.heap.size) → DataW.TrodVars enc Tryd.prog W' (fun b => decide (b < W.heap.size)) ns gs q
  | [], [], q, _, h, _ => h
  | n :: ns, d :: gs, q, hn, h, hlt => by
    obtain ⟨g, t, cs, fuel, p, q', h1, h2, h3, h4, h5, rfl⟩ := h
    obtain ⟨g', e1, e2, hz⟩ := hn n (by simp)
    obtain rfl := Option.some.inj (e1.symm.trans h1)
    obtain rfl := Option.some.inj (e2.symm.trans h2)
    have k : DataW.Trod enc Tryd.prog W 0 (fun _ => true) true 33 (.agg cs) d p := ⟨fuel, h4⟩
    obtain ⟨fuel', h4'⟩ := Below.trod laidOutT (by kernel_rfl) (of_decide_eq_true (by kernel_rfl)) k hb (fun x hx => hlt x (List.mem_append_left _ (List.mem_append_right _ hx)))
    exact ⟨g', 33, cs, fuel', p, q', h1, h2, var?_below hb h1 hz h3, h4', vars_back3 hb ns gs q' (fun m hm => hn m (List.mem_cons_of_mem _ hm)) h5 (fun x hx => hlt x (List.mem_append_right _ hx)), rfl⟩
  | [], _ :: _, _, _, h, _ => by cases h
  | _ :: _, [], _, _, h, _ => by cases h

/-- what a table is laid as -/
def layTri (zs : List Int) : Obj → Obj
  | .cells _ t frozen => .cells (zs.map fun z => Value.int .i64 z).toArray t frozen
  | o => o

/-- a world that holds the tables -/
noncomputable def tierWorld (os : Os) : World :=
  { World.holding Tryd.prog os ⟨#[], #[], []⟩ with heap := ((World.holding Tryd.prog os ⟨#[], #[], []⟩).heap.modify 0 (layTri [1, 5, 20])).modify 1 (layTri [40, 100, 400]) }

end Go.Proofs.YtnglfambcophpaaDoor
