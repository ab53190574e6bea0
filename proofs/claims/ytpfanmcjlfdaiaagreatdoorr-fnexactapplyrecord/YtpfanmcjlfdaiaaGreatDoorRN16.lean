/-
  Several texts as one: contracts that the law leans on; each part says what it proves and its conditions.
-/
import Derived.Test.YtpfanmcjlfdaiaaGreatDoorRN7
import Derived.Test.YtpfanmcjlfdaiaaGreatDoorRDoorTab
import Derived.ChangeVars
import Derived.SevenTiedAt
import Derived.LaidOnce
import Derived.Lib.LaidTab
import Derived.WalkSmall
import Derived.Test.YtpfanmcjlfdaiaaGreatDoorRTie
import Derived.Test.YtpfanmcjlfdaiaaGreatDoorRN2

/- The library's tables and the program's paths of tiers as their texts lay them: from the condition of a row to what the contracts ask; a world that holds them; the variable reads behind the call as it read before. -/
namespace Go.Proofs.YtpfanmcjlfdaiaaGreatDoorR
open Go.ChangeShapes Go.WideShapes Go.ChangeAt Go.RowKit
set_option linter.unusedVariables false

theorem gTab : Tryz.prog.globalNamed "loop.example/g00601/impl.tierPaths" = some 1 := by kernel_rfl
theorem gTabType : (Tryz.prog.globals[1]?).map (·.type) = some 184 := by kernel_rfl
theorem cellsTab : Tryz.prog.cellsOf 184 = 3 := by kernel_rfl
theorem cellsStr : Tryz.prog.cellsOf 9 = 1 := by kernel_rfl

theorem bytes_inj {s : ByteArray} {z : List UInt8} (h : s.data.toList = z) : s = ⟨z.toArray⟩ := by
  subst h; rfl

/-- an array of texts that reads as a list of texts holds them, cell for cell -/
theorem cells_of_texts {H : Type} {enc : TypeId × Value → H} {P : Program} {w : World} {base : Nat} {sp : Nat → Bool} {held : Bool} {fuel : Nat} {t e : TypeId} {n : Nat} {cs : List Value} {zs : List (List UInt8)} {p : List MemPlace}
    (ht : P.underlying t = some (.array n e)) (he : P.underlying e = some .string) (hce : P.cellsOf e = 1) (hct : P.cellsOf t = n)
    (h : DataW.trod enc P w base sp held fuel t cs = some (.agg (zs.map fun z => .lit (.string z)), p)) : cs = zs.map fun z => Value.string ⟨z.toArray⟩ := by
  cases fuel with
  | zero => simp [DataW.trod] at h
  | succ fuel =>
    simp only [DataW.trod, ht, hce, hct, Nat.mul_one] at h
    split at h
    · rename_i hl
      obtain ⟨xs, hm, hx⟩ := Option.map_eq_some_iff.1 h
      have hxs : xs.map (·.1) = zs.map fun z => (DataW.lit (.string z) : DataW H) := by
        have := congrArg Prod.fst hx
        simpa using this
      have hxl : xs.length = n := by simpa using Lib.mapM_length hm
      have hzl : zs.length = n := by
        have := congrArg List.length hxs
        simp at this
        omega
      apply List.ext_getElem?
      intro i
      by_cases hi : i < n
      · obtain ⟨b, hb, hf⟩ := Lib.mapM_at hm i i (by simp [hi])
        obtain ⟨s, hc, rfl, _⟩ := DataW.trod_string he hf
        have h1 : cs[i]? = some (.string s) := by
          have := congrArg (·[0]?) hc
          simpa [List.getElem?_take, List.getElem?_drop] using this
        have h2 : (xs.map (·.1))[i]? = some (DataW.lit (.string s.data.toList) : DataW H) := by simp [hb]
        rw [hxs] at h2
        simp only [List.getElem?_map, Option.map_eq_some_iff, DataW.lit.injEq, Lit.string.injEq] at h2
        obtain ⟨z', hz', e1⟩ := h2
        have e2 : s = ⟨z'.toArray⟩ := bytes_inj e1.symm
        simp [h1, hz', e2]
      · rw [List.getElem?_eq_none (by omega), List.getElem?_eq_none (by simp; omega)]
    · cases h

/-- the paths, byte by byte -/
def pl : List (List UInt8) := [[114, 97, 119, 47], [116, 49, 47], [116, 50, 47]]

theorem paths_cells {W : World} {cs : Array Value} (hvar : W.var? Tryz.prog "loop.example/g00601/impl.tierPaths" = some cs) (hcs : cs.toList = pl.map fun z => Value.string ⟨z.toArray⟩) : Paths W ∧ 1 < W.heap.size := by
  have hp : Paths W := by
    intro i hi
    have hv := World.var?_cell gTab hvar i
    rw [hv]
    have : cs[i]? = cs.toList[i]? := by simp
    rw [this, hcs]
    match i, hi with
    | 0, _ => rfl
    | 1, _ => rfl
    | 2, _ => rfl
  exact ⟨hp, World.block_lt_of_cell? W ⟨1, 0, none⟩ (hp 0 (by omega))⟩

end Go.Proofs.YtpfanmcjlfdaiaaGreatDoorR

/- What a row ties, whichever of the tables it names: one of what is laid, by its name; the program's variables read behind the call as they read ahead of it; worlds that hold the tables. -/
namespace Go.Proofs.YtpfanmcjlfdaiaaGreatDoorR
open Go.ChangeShapes Go.WideShapes Go.ChangeAt Go.RowKit
set_option linter.unusedVariables false

theorem laidVars_at {P : Program} {W : World} : ∀ {L : List (String × DataW Unit)} {ps : List MemPlace}, DataW.LaidVars P W L ps → ∀ {n : String} {d : DataW Unit}, (n, d) ∈ L → ∃ g t cs fuel p, P.globalNamed n = some g ∧ (P.globals[g]?).map (·.type) = some t ∧ W.var? P n = some cs ∧ DataW.trod (fun _ => ()) P W 0 (fun _ => true) false fuel t cs.toList = some (d, p)
  | [], _, _, _, _, hm => by cases hm
  | (n', d') :: r, ps, h, n, d, hm => by
    obtain ⟨g, t, cs, fuel, p, q, h1, h2, h3, h4, h5, _⟩ := h
    rcases List.mem_cons.1 hm with e | hm
    · cases e; exact ⟨g, t, cs, fuel, p, h1, h2, h3, h4⟩
    · exact laidVars_at h5 hm

theorem laid_at {P : Program} {W : World} {L : List (String × DataW Unit)} (h : laidMet P L W) {n : String} {d : DataW Unit} (hm : (n, d) ∈ L) : ∃ g t cs fuel p, P.globalNamed n = some g ∧ (P.globals[g]?).map (·.type) = some t ∧ W.var? P n = some cs ∧ DataW.trod (fun _ => ()) P W 0 (fun _ => true) false fuel t cs.toList = some (d, p) := by
  obtain ⟨ps, h, _⟩ := h
  exact laidVars_at h hm

theorem paths_in {W : World} {L : List (String × DataW Unit)} (h : laidMet Tryz.prog L W) (hm : ("loop.example/g00601/impl.tierPaths", Rows.laid_loop_example_g00601_impl_tierPaths) ∈ L) : Paths W ∧ 1 < W.heap.size := by
  obtain ⟨g', t', cs, fuel, p, hg', ht', hvar, hd⟩ := laid_at h hm
  obtain rfl := Option.some.inj (gTab.symm.trans hg')
  obtain rfl := Option.some.inj (gTabType.symm.trans ht')
  have hd' : DataW.trod (fun _ => ()) Tryz.prog W 0 (fun _ => true) false fuel 184 cs.toList = some (.agg (pl.map fun z => .lit (.string z)), p) := hd
  exact paths_cells hvar (cells_of_texts Tryz.underlying184 Tryz.underlying9 cellsStr cellsTab hd')

theorem gWidA : Tryz.prog.globalNamed "loop.example/g00601/impl.tierWidths" = some 0 := by kernel_rfl
theorem gWidTypeA : (Tryz.prog.globals[0]?).map (·.type) = some 24 := by kernel_rfl
theorem cellsTriA : Tryz.prog.cellsOf 24 = 3 := by kernel_rfl
theorem cellsIntA : Tryz.prog.cellsOf 3 = 1 := by kernel_rfl
theorem widDataA : (Rows.laid_loop_example_g00601_impl_tierWidths : DataW Unit) = Lib.tabData .i64 [1, 5, 20] := rfl

theorem wid_in {W : World} {L : List (String × DataW Unit)} (h : laidMet Tryz.prog L W) (hm : ("loop.example/g00601/impl.tierWidths", Rows.laid_loop_example_g00601_impl_tierWidths) ∈ L) : Tab3 0 wid W ∧ 0 < W.heap.size := by
  obtain ⟨g', t', cs, fuel, p, hg', ht', hvar, hd⟩ := laid_at h hm
  obtain rfl := Option.some.inj (gWidA.symm.trans hg')
  obtain rfl := Option.some.inj (gWidTypeA.symm.trans ht')
  rw [widDataA] at hd
  have hcs := Lib.cells_of_tab Tryz.underlying24 Tryz.underlying3 cellsIntA cellsTriA hd
  have hp : Tab3 0 wid W := by
    intro i hi
    rw [World.var?_cell gWidA hvar i]
    have : cs[i]? = cs.toList[i]? := by simp
    rw [this, hcs, List.getElem?_map]
    rcases three hi with rfl | rfl | rfl <;> rfl
  exact ⟨hp, World.block_lt_of_cell? W ⟨0, 0, none⟩ (hp 0 (by omega))⟩

/-- the program's variables read behind the call as they read ahead of it -/
theorem vars_backs {H : Type} {enc : TypeId × Value → H} {W W' : World} (hb : Below W.heap.size W W') : ∀ (ns : List String) (gs : List (DataW H)) (q : List MemPlace), (∀ n ∈ ns, ∃ g t, Tryz.prog.globalNamed n = some g ∧ (Tryz.prog.globals[g]?).map (·.type) = some t ∧ (t = 184 ∨ t = 24) ∧ g < W.heap.size) →
    DataW.TrodVars enc Tryz.prog W (fun _ => true) ns gs q → (∀ x ∈ q, x.block < W.heap.size) → DataW.TrodVars enc Tryz.prog W' (fun b => decide (b < W.heap.size)) ns gs q
  | [], [], q, _, h, _ => h
  | n :: ns, d :: gs, q, hn, h, hlt => by
    obtain ⟨g, t, cs, fuel, p, q', h1, h2, h3, h4, h5, rfl⟩ := h
    obtain ⟨g', t', e1, e2, et, hz⟩ := hn n (by simp)
    obtain rfl := Option.some.inj (e1.symm.trans h1)
    obtain rfl := Option.some.inj (e2.symm.trans h2)
    have k : DataW.Trod enc Tryz.prog W 0 (fun _ => true) true t' (.agg cs) d p := ⟨fuel, h4⟩
    have k2 : DataW.Trod enc Tryz.prog W' 0 (fun b => decide (b < W.heap.size)) true t' (.agg cs) d p := by
      rcases et with rfl | rfl
      · exact Below.trod laidOut (by kernel_rfl) (of_decide_eq_true (by kernel_rfl)) k hb (fun x hx => hlt x (List.mem_append_left _ (List.mem_append_right _ hx)))
      · exact Below.trod laidOut (by kernel_rfl) (of_decide_eq_true (by kernel_rfl)) k hb (fun x hx => hlt x (List.mem_append_left _ (List.mem_append_right _ hx)))
    obtain ⟨fuel', h4'⟩ := k2
    exact ⟨g', t', cs, fuel', p, q', h1, h2, var?_below hb h1 hz h3, h4', vars_backs hb ns gs q' (fun m hm => hn m (List.mem_cons_of_mem _ hm)) h5 (fun x hx => hlt x (List.mem_append_right _ hx)), rfl⟩
  | [], _ :: _, _, _, h, _ => by cases h
  | _ :: _, [], _, _, h, _ => by cases h

/-- the cells that a table's datum is, of numbers, of texts or of structs of numbers -/
def tabCellsA : DataW Unit → Array Value
  | .agg l => (l.flatMap fun | .lit (.int k z) => [Value.int k z] | .lit (.string z) => [Value.string ⟨z.toArray⟩] | .agg m => (m.map fun | .lit (.int k z) => Value.int k z | _ => .nilIface) | _ => []).toArray
  | _ => #[]

def layTabA (d : DataW Unit) : Obj → Obj
  | .cells _ t frozen => .cells (tabCellsA d) t frozen
  | o => o

/-- a world that holds the tables of numbers, the paths and the widths -/
noncomputable def laidWorldD (os : Os) : World :=
  { World.holding Tryz.prog os ⟨#[], #[], []⟩ with heap := (((((World.holding Tryz.prog os ⟨#[], #[], []⟩).heap.modify 3 (layTabA Rows.laid_internal_strconv_uint64pow10)).modify 6 (layTabA Rows.laid_math_bits_deBruijn32tab)).modify 7 (layTabA Rows.laid_math_bits_deBruijn64tab)).modify 1 (layTabA Rows.laid_loop_example_g00601_impl_tierPaths)).modify 0 (layTabA Rows.laid_loop_example_g00601_impl_tierWidths) }

end Go.Proofs.YtpfanmcjlfdaiaaGreatDoorR
