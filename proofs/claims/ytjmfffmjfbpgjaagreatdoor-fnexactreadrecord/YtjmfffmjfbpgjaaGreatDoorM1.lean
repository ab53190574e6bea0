/-
  Several texts as one: contracts that the law leans on; each part says what it proves and its conditions.
-/
import Derived.Test.YtjmfffmjfbpgjaaGreatDoorTxt
import Derived.ChangeVars
import Derived.SevenTiedAt
import Derived.LaidOnce
import Derived.Lib.LaidTab
import Derived.Test.YtjmfffmjfbpgjaaGreatDoorTie
import Derived.Test.YtjmfffmjfbpgjaaGreatDoorKeyI
import Derived.WalkSmall
import Derived.Test.YtjmfffmjfbpgjaaGreatDoorTierA
import Derived.Test.YtjmfffmjfbpgjaaGreatDoorM3
import Derived.Deep.DeepLaidRun
import Derived.LaidLaws
import Derived.ShapedOpen

/- The library's tables as the program's text lays them: from the condition of a row to what the contracts ask; a world that holds them. -/
namespace Go.Proofs.YtjmfffmjfbpgjaaGreatDoor
open Go.ChangeShapes Go.WideShapes Go.ChangeAt Go.RowKit
set_option linter.unusedVariables false

theorem own : ownKnob Tryz.prog.godebug = none := by kernel_rfl
theorem laidOut : laidOutB Tryz.prog = true := by kernel_rfl

theorem pow_data : (Rows.laid_internal_strconv_uint64pow10 : DataW Unit) = Lib.tabData .u64 Lib.pow10Tab := by rfl

theorem powG : Tryz.prog.globalNamed "internal/strconv.uint64pow10" = some 3 := by kernel_rfl
theorem powT : (Tryz.prog.globals[3]?).map (·.type) = some 296 := by kernel_rfl
theorem powC : Tryz.prog.cellsOf 296 = 20 := by kernel_rfl
theorem powE : Tryz.prog.cellsOf 273 = 1 := by kernel_rfl

theorem pow_of {W : World} {n1 n2 : String} {d1 d2 : DataW Unit} {rest : List (String × DataW Unit)} (h : laidMet Tryz.prog ((n1, d1) :: (n2, d2) :: ("internal/strconv.uint64pow10", Rows.laid_internal_strconv_uint64pow10) :: rest) W) : Pow W := by
  obtain ⟨ps, ⟨g1, t1, cs1, f1, p1, q1, _, _, _, _, ⟨g2, t2, cs2, f2, p2, q2, _, _, _, _, ⟨g', t', cs, fuel, p, q, hg', ht', hvar, hd, _, _⟩, _⟩, _⟩, _⟩ := h
  obtain rfl := Option.some.inj (powG.symm.trans hg')
  obtain rfl := Option.some.inj (powT.symm.trans ht')
  rw [pow_data] at hd
  unfold Pow Lib.TabIs
  rw [hvar, ← Lib.cells_of_tab Tryz.underlying296 Tryz.underlying273 powE powC hd]

/-- the cells that a table's datum is -/
def tabCells : DataW Unit → Array Value
  | .agg l => (l.map fun | .lit (.int k z) => Value.int k z | _ => .nilIface).toArray
  | _ => #[]

/-- what a table is laid as -/
def layTab (d : DataW Unit) : Obj → Obj
  | .cells _ t frozen => .cells (tabCells d) t frozen
  | o => o

/-- a world that holds the three tables -/
noncomputable def laidWorld (os : Os) : World :=
  { World.holding Tryz.prog os ⟨#[], #[], []⟩ with heap := (((World.holding Tryz.prog os ⟨#[], #[], []⟩).heap.modify 3 (layTab Rows.laid_internal_strconv_uint64pow10)).modify 8 (layTab Rows.laid_math_bits_deBruijn32tab)).modify 9 (layTab Rows.laid_math_bits_deBruijn64tab) }

end Go.Proofs.YtjmfffmjfbpgjaaGreatDoor

/- The library's tables and the program's paths of tiers as their texts lay them: from the condition of a row to what the contracts ask; a world that holds them; the variable reads behind the call as it read before. -/
namespace Go.Proofs.YtjmfffmjfbpgjaaGreatDoor
open Go.ChangeShapes Go.WideShapes Go.ChangeAt Go.RowKit
set_option linter.unusedVariables false

theorem gTab : Tryz.prog.globalNamed "loop.example/g00601/impl.tierPaths" = some 0 := by kernel_rfl
theorem gTabType : (Tryz.prog.globals[0]?).map (·.type) = some 109 := by kernel_rfl
theorem cellsTab : Tryz.prog.cellsOf 109 = 3 := by kernel_rfl
theorem cellsStr : Tryz.prog.cellsOf 9 = 1 := by kernel_rfl

theorem bytes_inj {s : ByteArray} {z : List UInt8} (h : s.data.toList = z) : s = ⟨z.toArray⟩ := by
  subst h; rfl

/-- an array of texts that reads as a list of texts holds them, cell for cell -/
theorem cells_of_texts {H : Type} {enc : TypeId × Value → H} {P : Program} {w : World} {base : Nat} {sp : Nat → Bool} {held : Bool} {fuel : Nat} {t e : TypeId} {n : Nat} {cs : List Value} {zs : List (List UInt8)} {p : List MemPlace}
    (ht : P.underlying t = some (.array n e)) (he : P.underlying e = some .string) (hce : P.cellsOf e = 1) (hct : P.cellsOf t = n)
    (h : DataW.trod enc P w base sp held fuel t cs = some (.agg (zs.map fun z => .lit (.string z)), p)) : cs = zs.map fun z => Value.string ⟨z.toArray⟩ := by
  cases fuel with
  | zero => simp [DataW.trod] at h
  | succ fuel =>
    simp only [DataW.trod, ht, hce, hct, Nat.mul_one] at h
    split at h
    · rename_i hl
      obtain ⟨xs, hm, hx⟩ := Option.map_eq_some_iff.1 h
      have hxs : xs.map (·.1) = zs.map fun z => (DataW.lit (.string z) : DataW H) := by
        have := congrArg Prod.fst hx
        simpa using this
      have hxl : xs.length = n := by simpa using Lib.mapM_length hm
      have hzl : zs.length = n := by
        have := congrArg List.length hxs
        simp at this
        omega
      apply List.ext_getElem?
      intro i
      by_cases hi : i < n
      · obtain ⟨b, hb, hf⟩ := Lib.mapM_at hm i i (by simp [hi])
        obtain ⟨s, hc, rfl, _⟩ := DataW.trod_string he hf
        have h1 : cs[i]? = some (.string s) := by
          have := congrArg (·[0]?) hc
          simpa [List.getElem?_take, List.getElem?_drop] using this
        have h2 : (xs.map (·.1))[i]? = some (DataW.lit (.string s.data.toList) : DataW H) := by simp [hb]
        rw [hxs] at h2
        simp only [List.getElem?_map, Option.map_eq_some_iff, DataW.lit.injEq, Lit.string.injEq] at h2
        obtain ⟨z', hz', e1⟩ := h2
        have e2 : s = ⟨z'.toArray⟩ := bytes_inj e1.symm
        simp [h1, hz', e2]
      · rw [List.getElem?_eq_none (by omega), List.getElem?_eq_none (by simp; omega)]
    · cases h

/-- the paths, byte by byte -/
def pl : List (List UInt8) := [[114, 97, 119, 47], [116, 49, 47], [116, 50, 47]]

theorem paths_cells {W : World} {cs : Array Value} (hvar : W.var? Tryz.prog "loop.example/g00601/impl.tierPaths" = some cs) (hcs : cs.toList = pl.map fun z => Value.string ⟨z.toArray⟩) : Paths W ∧ 0 < W.heap.size := by
  have hp : Paths W := by
    intro i hi
    have hv := World.var?_cell gTab hvar i
    rw [hv]
    have : cs[i]? = cs.toList[i]? := by simp
    rw [this, hcs]
    match i, hi with
    | 0, _ => rfl
    | 1, _ => rfl
    | 2, _ => rfl
  exact ⟨hp, World.block_lt_of_cell? W ⟨0, 0, none⟩ (hp 0 (by omega))⟩

theorem paths_of1 {W : World} (h : laidMet Tryz.prog [("loop.example/g00601/impl.tierPaths", Rows.laid_loop_example_g00601_impl_tierPaths)] W) : Paths W ∧ 0 < W.heap.size := by
  obtain ⟨ps, ⟨g', t', cs, fuel, p, q, hg', ht', hvar, hd, _, _⟩, _⟩ := h
  obtain rfl := Option.some.inj (gTab.symm.trans hg')
  obtain rfl := Option.some.inj (gTabType.symm.trans ht')
  have hd' : DataW.trod (fun _ => ()) Tryz.prog W 0 (fun _ => true) false fuel 109 cs.toList = some (.agg (pl.map fun z => .lit (.string z)), p) := hd
  exact paths_cells hvar (cells_of_texts Tryz.underlying109 Tryz.underlying9 cellsStr cellsTab hd')

theorem paths_of4 {W : World} {n1 n2 n3 : String} {d1 d2 d3 : DataW Unit} (h : laidMet Tryz.prog [(n1, d1), (n2, d2), (n3, d3), ("loop.example/g00601/impl.tierPaths", Rows.laid_loop_example_g00601_impl_tierPaths)] W) : Paths W ∧ 0 < W.heap.size := by
  obtain ⟨ps, ⟨g1, t1, cs1, f1, p1, q1, _, _, _, _, ⟨g2, t2, cs2, f2, p2, q2, _, _, _, _, ⟨g3, t3, cs3, f3, p3, q3, _, _, _, _, ⟨g', t', cs, fuel, p, q, hg', ht', hvar, hd, _, _⟩, _⟩, _⟩, _⟩, _⟩ := h
  obtain rfl := Option.some.inj (gTab.symm.trans hg')
  obtain rfl := Option.some.inj (gTabType.symm.trans ht')
  have hd' : DataW.trod (fun _ => ()) Tryz.prog W 0 (fun _ => true) false fuel 109 cs.toList = some (.agg (pl.map fun z => .lit (.string z)), p) := hd
  exact paths_cells hvar (cells_of_texts Tryz.underlying109 Tryz.underlying9 cellsStr cellsTab hd')

/-- the variable reads behind the call as it read ahead of it -/
theorem vars_back {H : Type} {enc : TypeId × Value → H} {W W' : World} {gs : List (DataW H)} {q : List MemPlace} (h : DataW.TrodVars enc Tryz.prog W (fun _ => true) ["loop.example/g00601/impl.tierPaths"] gs q) (hb : Below W.heap.size W W') (h0 : 0 < W.heap.size) (hlt : ∀ x ∈ q, x.block < W.heap.size) :
    DataW.TrodVars enc Tryz.prog W' (fun b => decide (b < W.heap.size)) ["loop.example/g00601/impl.tierPaths"] gs q := by
  obtain ⟨g, t, cs, fuel, d, p, rfl, h1, h2, h3, h4, rfl⟩ := trodVars_one h
  obtain rfl := Option.some.inj (gTab.symm.trans h1)
  obtain rfl := Option.some.inj (gTabType.symm.trans h2)
  have k : DataW.Trod enc Tryz.prog W 0 (fun _ => true) true 109 (.agg cs) d p := ⟨fuel, h4⟩
  obtain ⟨fuel', h4'⟩ := Below.trod laidOut (by kernel_rfl) (of_decide_eq_true (by kernel_rfl)) k hb (fun x hx => hlt x (List.mem_append_right _ hx))
  exact trodVars_mk1 h1 h2 (var?_below hb gTab h0 h3) h4'

/-- the cells that a table's datum is -/
def tabCellsK : DataW Unit → Array Value
  | .agg l => (l.map fun | .lit (.int k z) => Value.int k z | .lit (.string z) => Value.string ⟨z.toArray⟩ | _ => .nilIface).toArray
  | _ => #[]

/-- what a table is laid as -/
def layTabK (d : DataW Unit) : Obj → Obj
  | .cells _ t frozen => .cells (tabCellsK d) t frozen
  | o => o

/-- a world that holds the tables -/
noncomputable def laidWorldK (os : Os) : World :=
  { World.holding Tryz.prog os ⟨#[], #[], []⟩ with heap := ((((World.holding Tryz.prog os ⟨#[], #[], []⟩).heap.modify 3 (layTabK Rows.laid_internal_strconv_uint64pow10)).modify 8 (layTabK Rows.laid_math_bits_deBruijn32tab)).modify 9 (layTabK Rows.laid_math_bits_deBruijn64tab)).modify 0 (layTabK Rows.laid_loop_example_g00601_impl_tierPaths) }

end Go.Proofs.YtjmfffmjfbpgjaaGreatDoor

/- What a row ties, whichever of the tables it names: one of what is laid, by its name; the program's variables read behind the call as they read ahead of it; worlds that hold the tables. -/
namespace Go.Proofs.YtjmfffmjfbpgjaaGreatDoor
open Go.ChangeShapes Go.WideShapes Go.ChangeAt Go.RowKit
set_option linter.unusedVariables false

theorem laidVars_at {P : Program} {W : World} : ∀ {L : List (String × DataW Unit)} {ps : List MemPlace}, DataW.LaidVars P W L ps → ∀ {n : String} {d : DataW Unit}, (n, d) ∈ L → ∃ g t cs fuel p, P.globalNamed n = some g ∧ (P.globals[g]?).map (·.type) = some t ∧ W.var? P n = some cs ∧ DataW.trod (fun _ => ()) P W 0 (fun _ => true) false fuel t cs.toList = some (d, p)
  | [], _, _, _, _, hm => by cases hm
  | (n', d') :: r, ps, h, n, d, hm => by
    obtain ⟨g, t, cs, fuel, p, q, h1, h2, h3, h4, h5, _⟩ := h
    rcases List.mem_cons.1 hm with e | hm
    · cases e; exact ⟨g, t, cs, fuel, p, h1, h2, h3, h4⟩
    · exact laidVars_at h5 hm

theorem laid_at {P : Program} {W : World} {L : List (String × DataW Unit)} (h : laidMet P L W) {n : String} {d : DataW Unit} (hm : (n, d) ∈ L) : ∃ g t cs fuel p, P.globalNamed n = some g ∧ (P.globals[g]?).map (·.type) = some t ∧ W.var? P n = some cs ∧ DataW.trod (fun _ => ()) P W 0 (fun _ => true) false fuel t cs.toList = some (d, p) := by
  obtain ⟨ps, h, _⟩ := h
  exact laidVars_at h hm

theorem paths_in {W : World} {L : List (String × DataW Unit)} (h : laidMet Tryz.prog L W) (hm : ("loop.example/g00601/impl.tierPaths", Rows.laid_loop_example_g00601_impl_tierPaths) ∈ L) : Paths W ∧ 0 < W.heap.size := by
  obtain ⟨g', t', cs, fuel, p, hg', ht', hvar, hd⟩ := laid_at h hm
  obtain rfl := Option.some.inj (gTab.symm.trans hg')
  obtain rfl := Option.some.inj (gTabType.symm.trans ht')
  have hd' : DataW.trod (fun _ => ()) Tryz.prog W 0 (fun _ => true) false fuel 109 cs.toList = some (.agg (pl.map fun z => .lit (.string z)), p) := hd
  exact paths_cells hvar (cells_of_texts Tryz.underlying109 Tryz.underlying9 cellsStr cellsTab hd')

theorem pow_in {W : World} {L : List (String × DataW Unit)} (h : laidMet Tryz.prog L W) (hm : ("internal/strconv.uint64pow10", Rows.laid_internal_strconv_uint64pow10) ∈ L) : Pow W := by
  obtain ⟨g', t', cs, fuel, p, hg', ht', hvar, hd⟩ := laid_at h hm
  obtain rfl := Option.some.inj (powG.symm.trans hg')
  obtain rfl := Option.some.inj (powT.symm.trans ht')
  rw [pow_data] at hd
  unfold Pow Lib.TabIs
  rw [hvar, ← Lib.cells_of_tab Tryz.underlying296 Tryz.underlying273 powE powC hd]

theorem gWidA : Tryz.prog.globalNamed "loop.example/g00601/impl.tierWidths" = some 2 := by kernel_rfl
theorem gWidTypeA : (Tryz.prog.globals[2]?).map (·.type) = some 50 := by kernel_rfl
theorem cellsTriA : Tryz.prog.cellsOf 50 = 3 := by kernel_rfl
theorem cellsIntA : Tryz.prog.cellsOf 3 = 1 := by kernel_rfl
theorem widDataA : (Rows.laid_loop_example_g00601_impl_tierWidths : DataW Unit) = Lib.tabData .i64 [1, 5, 20] := rfl

theorem wid_in {W : World} {L : List (String × DataW Unit)} (h : laidMet Tryz.prog L W) (hm : ("loop.example/g00601/impl.tierWidths", Rows.laid_loop_example_g00601_impl_tierWidths) ∈ L) : Tab3 2 wid W ∧ 2 < W.heap.size := by
  obtain ⟨g', t', cs, fuel, p, hg', ht', hvar, hd⟩ := laid_at h hm
  obtain rfl := Option.some.inj (gWidA.symm.trans hg')
  obtain rfl := Option.some.inj (gWidTypeA.symm.trans ht')
  rw [widDataA] at hd
  have hcs := Lib.cells_of_tab Tryz.underlying50 Tryz.underlying3 cellsIntA cellsTriA hd
  have hp : Tab3 2 wid W := by
    intro i hi
    rw [World.var?_cell gWidA hvar i]
    have : cs[i]? = cs.toList[i]? := by simp
    rw [this, hcs, List.getElem?_map]
    rcases three hi with rfl | rfl | rfl <;> rfl
  exact ⟨hp, World.block_lt_of_cell? W ⟨2, 0, none⟩ (hp 0 (by omega))⟩

/-- the program's variables read behind the call as they read ahead of it -/
theorem vars_backs {H : Type} {enc : TypeId × Value → H} {W W' : World} (hb : Below W.heap.size W W') : ∀ (ns : List String) (gs : List (DataW H)) (q : List MemPlace), (∀ n ∈ ns, ∃ g t, Tryz.prog.globalNamed n = some g ∧ (Tryz.prog.globals[g]?).map (·.type) = some t ∧ (t = 109 ∨ t = 50) ∧ g < W.heap.size) →
    DataW.TrodVars enc Tryz.prog W (fun _ => true) ns gs q → (∀ x ∈ q, x.block < W.heap.size) → DataW.TrodVars enc Tryz.prog W' (fun b => decide (b < W.heap.size)) ns gs q
  | [], [], q, _, h, _ => h
  | n :: ns, d :: gs, q, hn, h, hlt => by
    obtain ⟨g, t, cs, fuel, p, q', h1, h2, h3, h4, h5, rfl⟩ := h
    obtain ⟨g', t', e1, e2, et, hz⟩ := hn n (by simp)
    obtain rfl := Option.some.inj (e1.symm.trans h1)
    obtain rfl := Option.some.inj (e2.symm.trans h2)
    have k : DataW.Trod enc Tryz.prog W 0 (fun _ => true) true t' (.agg cs) d p := ⟨fuel, h4⟩
    have k2 : DataW.Trod enc Tryz.prog W' 0 (fun b => decide (b < W.heap.size)) true t' (.agg cs) d p := by
      rcases et with rfl | rfl
      · exact Below.trod laidOut (by kernel_rfl) (of_decide_eq_true (by kernel_rfl)) k hb (fun x hx => hlt x (List.mem_append_left _ (List.mem_append_right _ hx)))
      · exact Below.trod laidOut (by kernel_rfl) (of_decide_eq_true (by kernel_rfl)) k hb (fun x hx => hlt x (List.mem_append_left _ (List.mem_append_right _ hx)))
    obtain ⟨fuel', h4'⟩ := k2
    exact ⟨g', t', cs, fuel', p, q', h1, h2, var?_below hb h1 hz h3, h4', vars_backs hb ns gs q' (fun m hm => hn m (List.mem_cons_of_mem _ hm)) h5 (fun x hx => hlt x (List.mem_append_right _ hx)), rfl⟩
  | [], _ :: _, _, _, h, _ => by cases h
  | _ :: _, [], _, _, h, _ => by cases h

/-- the cells that a table's datum is, of numbers, of texts or of structs of numbers -/
def tabCellsA : DataW Unit → Array Value
  | .agg l => (l.flatMap fun | .lit (.int k z) => [Value.int k z] | .lit (.string z) => [Value.string ⟨z.toArray⟩] | .agg m => (m.map fun | .lit (.int k z) => Value.int k z | _ => .nilIface) | _ => []).toArray
  | _ => #[]

def layTabA (d : DataW Unit) : Obj → Obj
  | .cells _ t frozen => .cells (tabCellsA d) t frozen
  | o => o

/-- a world that holds the tables of numbers, the paths and the widths -/
noncomputable def laidWorldD (os : Os) : World :=
  { World.holding Tryz.prog os ⟨#[], #[], []⟩ with heap := (((((World.holding Tryz.prog os ⟨#[], #[], []⟩).heap.modify 3 (layTabA Rows.laid_internal_strconv_uint64pow10)).modify 8 (layTabA Rows.laid_math_bits_deBruijn32tab)).modify 9 (layTabA Rows.laid_math_bits_deBruijn64tab)).modify 0 (layTabA Rows.laid_loop_example_g00601_impl_tierPaths)).modify 2 (layTabA Rows.laid_loop_example_g00601_impl_tierWidths) }

end Go.Proofs.YtjmfffmjfbpgjaaGreatDoor

/- The library's tables, its two errors' variables and its MaxLen: from the conditions of a row to what the contracts ask; a world that holds them. -/
namespace Go.Proofs.YtjmfffmjfbpgjaaGreatDoor
open Go.ChangeShapes Go.WideShapes Go.ChangeAt Go.RowKit
set_option linter.unusedVariables false

theorem synG : Tryz.prog.globalNamed "strconv.ErrSyntax" = some 4 := by kernel_rfl
theorem synT : (Tryz.prog.globals[4]?).map (·.type) = some 113 := by kernel_rfl
theorem ranG : Tryz.prog.globalNamed "strconv.ErrRange" = some 5 := by kernel_rfl
theorem ranT : (Tryz.prog.globals[5]?).map (·.type) = some 113 := by kernel_rfl

theorem errs_of2 {W : World} {cs cs' : Array Value} {f f' : Nat} {p p' : List MemPlace} {nm nm' : String} {d d' : DataW Unit} (h1 : W.var? Tryz.prog "strconv.ErrRange" = some cs) (k1 : DataW.trod (fun _ => ()) Tryz.prog W 0 (fun _ => true) false f 113 cs.toList = some (.iface nm d, p))
    (h2 : W.var? Tryz.prog "strconv.ErrSyntax" = some cs') (k2 : DataW.trod (fun _ => ()) Tryz.prog W 0 (fun _ => true) false f' 113 cs'.toList = some (.iface nm' d', p')) : Errs W := by
  obtain ⟨_, u, v, e, _⟩ := iface_of_trod Tryz.underlying113 k1
  obtain ⟨_, u', v', e', _⟩ := iface_of_trod Tryz.underlying113 k2
  have c1 := World.var?_cell ranG h1 0
  have c2 := World.var?_cell synG h2 0
  rw [show cs[0]? = cs.toList[0]? by simp, e] at c1
  rw [show cs'[0]? = cs'.toList[0]? by simp, e'] at c2
  exact ⟨⟨_, c2, Or.inr ⟨u', v', rfl⟩⟩, ⟨_, c1, Or.inr ⟨u, v, rfl⟩⟩⟩

theorem errs_of7 {W : World} {n1 n2 n3 n4 : String} {d1 d2 d3 d4 : DataW Unit} {rest : List (String × DataW Unit)} (h : laidMet Tryz.prog ((n1, d1) :: (n2, d2) :: (n3, d3) :: (n4, d4) :: ("strconv.ErrRange", Rows.laid_strconv_ErrRange) :: ("strconv.ErrSyntax", Rows.laid_strconv_ErrSyntax) :: rest) W) : Errs W := by
  obtain ⟨ps, ⟨g1, t1, cs1, f1, p1, q1, _, _, _, _, ⟨g2, t2, cs2, f2, p2, q2, _, _, _, _, ⟨g3, t3, cs3, f3, p3, q3, _, _, _, _, ⟨g4, t4, cs4, f4, p4, q4, _, _, _, _, ⟨g5, t5, cs5, f5, p5, q5, hg5, ht5, hv5, hd5, ⟨g6, t6, cs6, f6, p6, q6, hg6, ht6, hv6, hd6, _, _⟩, _⟩, _⟩, _⟩, _⟩, _⟩, _⟩ := h
  obtain rfl := Option.some.inj (ranG.symm.trans hg5)
  obtain rfl := Option.some.inj (ranT.symm.trans ht5)
  obtain rfl := Option.some.inj (synG.symm.trans hg6)
  obtain rfl := Option.some.inj (synT.symm.trans ht6)
  exact errs_of2 hv5 hd5 hv6 hd6

theorem errs_of5 {W : World} {n1 n2 n3 : String} {d1 d2 d3 : DataW Unit} {rest : List (String × DataW Unit)} (h : laidMet Tryz.prog ((n1, d1) :: (n2, d2) :: (n3, d3) :: ("strconv.ErrRange", Rows.laid_strconv_ErrRange) :: ("strconv.ErrSyntax", Rows.laid_strconv_ErrSyntax) :: rest) W) : Errs W := by
  obtain ⟨ps, ⟨g1, t1, cs1, f1, p1, q1, _, _, _, _, ⟨g2, t2, cs2, f2, p2, q2, _, _, _, _, ⟨g3, t3, cs3, f3, p3, q3, _, _, _, _, ⟨g5, t5, cs5, f5, p5, q5, hg5, ht5, hv5, hd5, ⟨g6, t6, cs6, f6, p6, q6, hg6, ht6, hv6, hd6, _, _⟩, _⟩, _⟩, _⟩, _⟩, _⟩ := h
  obtain rfl := Option.some.inj (ranG.symm.trans hg5)
  obtain rfl := Option.some.inj (ranT.symm.trans ht5)
  obtain rfl := Option.some.inj (synG.symm.trans hg6)
  obtain rfl := Option.some.inj (synT.symm.trans ht6)
  exact errs_of2 hv5 hd5 hv6 hd6

/-- a variable of an int holds one -/
theorem int_of_shape {P : Program} {w : World} {g : Nat} {t : TypeId} {zero : Array Value} (h : w.ShapedOpen P) (hg : g < P.globals.size)
    (h0 : ((begin P (fun _ _ => 0) default).world.heap[g]?).bind Obj.row? = some (zero, t)) (hz : zero.size = 1)
    (hb : P.buildable t = true) (hc : P.cellTypes P.depth t = some [t]) (hu : P.underlying t = some (.int .i64)) : ∃ m, w.cell? ⟨g, 0, none⟩ = some (.int .i64 m) := by
  obtain ⟨cs, hh, hs, hr⟩ := h.1 g zero t hg h0
  obtain ⟨ts, hts, _, hall⟩ := hr hb
  rw [hc] at hts
  cases hts
  have h1 : 0 < cs.size := by omega
  obtain ⟨u, hu', hok⟩ := hall 0 cs[0] (by simp [h1])
  have : u = t := by simpa using hu'.symm
  subst this
  have hcell : w.cell? ⟨g, 0, none⟩ = some cs[0] := by simp [World.cell?, hh, h1]
  rw [hcell]
  unfold Cell.ok at hok
  rw [hu] at hok
  cases hv : cs[0] <;> rw [hv] at hok <;> simp at hok
  rename_i k n
  obtain ⟨rfl, _⟩ := hok
  exact ⟨n, rfl⟩

theorem maxL_of {W : World} (h : W.ShapedOpen Tryz.prog) : MaxL W :=
  int_of_shape (t := 3) (zero := #[.int .i64 0]) h (of_decide_eq_true (by kernel_rfl)) (by kernel_rfl) rfl (by kernel_rfl) (by kernel_rfl) Tryz.underlying3

/-- the cells that a table's datum is, of numbers or of structs of numbers -/
def tabCells2 : DataW Unit → Array Value
  | .agg l => (l.flatMap fun | .lit (.int k z) => [Value.int k z] | .agg m => (m.map fun | .lit (.int k z) => Value.int k z | _ => .nilIface) | _ => []).toArray
  | _ => #[]

def layTab2 (d : DataW Unit) : Obj → Obj
  | .cells _ t frozen => .cells (tabCells2 d) t frozen
  | o => o

def textOfD : DataW Unit → ByteArray
  | .iface _ (.ptr (.agg [.lit (.string z)])) => ⟨z.toArray⟩
  | _ => ⟨#[]⟩

noncomputable def low : Nat := (World.holding Tryz.prog default ⟨#[], #[], []⟩).heap.size

def layErr (b : Nat) : Obj → Obj
  | .cells _ t frozen => .cells #[.iface 317 (.pointer (some ⟨b, 0, none⟩))] t frozen
  | o => o

/-- a world that holds the tables and the errors -/
noncomputable def laidWorld7 (os : Os) : World :=
  let w0 := World.holding Tryz.prog os ⟨#[.cells #[.string (textOfD Rows.laid_strconv_ErrRange)] 319, .cells #[.string (textOfD Rows.laid_strconv_ErrSyntax)] 319], #[], []⟩
  { w0 with heap := (((((((w0.heap.modify 3 (layTab2 Rows.laid_internal_strconv_uint64pow10)).modify 8 (layTab2 Rows.laid_math_bits_deBruijn32tab)).modify 9 (layTab2 Rows.laid_math_bits_deBruijn64tab)).modify 7 (layTab2 Rows.laid_unicode_utf8_acceptRanges)).modify 6 (layTab2 Rows.laid_unicode_utf8_first)).modify 5 (layErr low)).modify 4 (layErr (low + 1))) }

end Go.Proofs.YtjmfffmjfbpgjaaGreatDoor

/- What a row ties besides: the library's errors; a world that holds the tables, the paths, the widths and the errors. -/
namespace Go.Proofs.YtjmfffmjfbpgjaaGreatDoor
open Go.ChangeShapes Go.WideShapes Go.ChangeAt Go.RowKit
set_option linter.unusedVariables false

theorem errs_in {W : World} {L : List (String × DataW Unit)} (h : laidMet Tryz.prog L W) (hm1 : ("strconv.ErrRange", Rows.laid_strconv_ErrRange) ∈ L) (hm2 : ("strconv.ErrSyntax", Rows.laid_strconv_ErrSyntax) ∈ L) : Errs W := by
  obtain ⟨g5, t5, cs5, f5, p5, hg5, ht5, hv5, hd5⟩ := laid_at h hm1
  obtain ⟨g6, t6, cs6, f6, p6, hg6, ht6, hv6, hd6⟩ := laid_at h hm2
  obtain rfl := Option.some.inj (ranG.symm.trans hg5)
  obtain rfl := Option.some.inj (ranT.symm.trans ht5)
  obtain rfl := Option.some.inj (synG.symm.trans hg6)
  obtain rfl := Option.some.inj (synT.symm.trans ht6)
  exact errs_of2 hv5 hd5 hv6 hd6

/-- a world that holds the tables, the paths, the widths and the errors -/
noncomputable def laidWorldZ (os : Os) : World :=
  let w0 := World.holding Tryz.prog os ⟨#[.cells #[.string (textOfD Rows.laid_strconv_ErrRange)] 319, .cells #[.string (textOfD Rows.laid_strconv_ErrSyntax)] 319], #[], []⟩
  { w0 with heap := (((((((((w0.heap.modify 3 (layTabA Rows.laid_internal_strconv_uint64pow10)).modify 8 (layTabA Rows.laid_math_bits_deBruijn32tab)).modify 9 (layTabA Rows.laid_math_bits_deBruijn64tab)).modify 7 (layTabA Rows.laid_unicode_utf8_acceptRanges)).modify 6 (layTabA Rows.laid_unicode_utf8_first)).modify 5 (layErr low)).modify 4 (layErr (low + 1))).modify 0 (layTabA Rows.laid_loop_example_g00601_impl_tierPaths)).modify 2 (layTabA Rows.laid_loop_example_g00601_impl_tierWidths)) }

end Go.Proofs.YtjmfffmjfbpgjaaGreatDoor
