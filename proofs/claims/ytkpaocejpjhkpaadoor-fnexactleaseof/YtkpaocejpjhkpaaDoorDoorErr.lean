/-
  The library's tables, its two errors' variables and its MaxLen: from the conditions of a row to what the contracts ask; a world that holds them.
-/
import Derived.Test.YtkpaocejpjhkpaaDoorImplRd
import Derived.Test.YtkpaocejpjhkpaaDoorDoorTab
import Derived.Deep.DeepLaidRun
import Derived.LaidLaws
import Derived.ShapedOpen
namespace Go.Proofs.YtkpaocejpjhkpaaDoor
open Go.ChangeShapes Go.WideShapes Go.ChangeAt Go.RowKit
set_option linter.unusedVariables false

theorem synG : Tryd.prog.globalNamed "strconv.ErrSyntax" = some 3 := by kernel_rfl
theorem synT : (Tryd.prog.globals[3]?).map (·.type) = some 97 := by kernel_rfl
theorem ranG : Tryd.prog.globalNamed "strconv.ErrRange" = some 4 := by kernel_rfl
theorem ranT : (Tryd.prog.globals[4]?).map (·.type) = some 97 := by kernel_rfl

theorem errs_of2 {W : World} {cs cs' : Array Value} {f f' : Nat} {p p' : List MemPlace} {nm nm' : String} {d d' : DataW Unit} (h1 : W.var? Tryd.prog "strconv.ErrRange" = some cs) (k1 : DataW.trod (fun _ => ()) Tryd.prog W 0 (fun _ => true) false f 97 cs.toList = some (.iface nm d, p))
    (h2 : W.var? Tryd.prog "strconv.ErrSyntax" = some cs') (k2 : DataW.trod (fun _ => ()) Tryd.prog W 0 (fun _ => true) false f' 97 cs'.toList = some (.iface nm' d', p')) : Errs W := by
  obtain ⟨_, u, v, e, _⟩ := iface_of_trod Tryd.underlying97 k1
  obtain ⟨_, u', v', e', _⟩ := iface_of_trod Tryd.underlying97 k2
  have c1 := World.var?_cell ranG h1 0
  have c2 := World.var?_cell synG h2 0
  rw [show cs[0]? = cs.toList[0]? by simp, e] at c1
  rw [show cs'[0]? = cs'.toList[0]? by simp, e'] at c2
  exact ⟨⟨_, c2, Or.inr ⟨u', v', rfl⟩⟩, ⟨_, c1, Or.inr ⟨u, v, rfl⟩⟩⟩

theorem errs_of7 {W : World} {n1 n2 n3 n4 : String} {d1 d2 d3 d4 : DataW Unit} {rest : List (String × DataW Unit)} (h : laidMet Tryd.prog ((n1, d1) :: (n2, d2) :: (n3, d3) :: (n4, d4) :: ("strconv.ErrRange", Rows.laid_strconv_ErrRange) :: ("strconv.ErrSyntax", Rows.laid_strconv_ErrSyntax) :: rest) W) : Errs W := by
  obtain ⟨ps, ⟨g1, t1, cs1, f1, p1, q1, _, _, _, _, ⟨g2, t2, cs2, f2, p2, q2, _, _, _, _, ⟨g3, t3, cs3, f3, p3, q3, _, _, _, _, ⟨g4, t4, cs4, f4, p4, q4, _, _, _, _, ⟨g5, t5, cs5, f5, p5, q5, hg5, ht5, hv5, hd5, ⟨g6, t6, cs6, f6, p6, q6, hg6, ht6, hv6, hd6, _, _⟩, _⟩, _⟩, _⟩, _⟩, _⟩, _⟩ := h
  obtain rfl := Option.some.inj (ranG.symm.trans hg5)
  obtain rfl := Option.some.inj (ranT.symm.trans ht5)
  obtain rfl := Option.some.inj (synG.symm.trans hg6)
  obtain rfl := Option.some.inj (synT.symm.trans ht6)
  exact errs_of2 hv5 hd5 hv6 hd6

theorem errs_of5 {W : World} {n1 n2 n3 : String} {d1 d2 d3 : DataW Unit} {rest : List (String × DataW Unit)} (h : laidMet Tryd.prog ((n1, d1) :: (n2, d2) :: (n3, d3) :: ("strconv.ErrRange", Rows.laid_strconv_ErrRange) :: ("strconv.ErrSyntax", Rows.laid_strconv_ErrSyntax) :: rest) W) : Errs W := by
  obtain ⟨ps, ⟨g1, t1, cs1, f1, p1, q1, _, _, _, _, ⟨g2, t2, cs2, f2, p2, q2, _, _, _, _, ⟨g3, t3, cs3, f3, p3, q3, _, _, _, _, ⟨g5, t5, cs5, f5, p5, q5, hg5, ht5, hv5, hd5, ⟨g6, t6, cs6, f6, p6, q6, hg6, ht6, hv6, hd6, _, _⟩, _⟩, _⟩, _⟩, _⟩, _⟩ := h
  obtain rfl := Option.some.inj (ranG.symm.trans hg5)
  obtain rfl := Option.some.inj (ranT.symm.trans ht5)
  obtain rfl := Option.some.inj (synG.symm.trans hg6)
  obtain rfl := Option.some.inj (synT.symm.trans ht6)
  exact errs_of2 hv5 hd5 hv6 hd6

/-- a variable of an int holds one -/
theorem int_of_shape {P : Program} {w : World} {g : Nat} {t : TypeId} {zero : Array Value} (h : w.ShapedOpen P) (hg : g < P.globals.size)
    (h0 : ((begin P (fun _ _ => 0) default).world.heap[g]?).bind Obj.row? = some (zero, t)) (hz : zero.size = 1)
    (hb : P.buildable t = true) (hc : P.cellTypes P.depth t = some [t]) (hu : P.underlying t = some (.int .i64)) : ∃ m, w.cell? ⟨g, 0, none⟩ = some (.int .i64 m) := by
  obtain ⟨cs, hh, hs, hr⟩ := h.1 g zero t hg h0
  obtain ⟨ts, hts, _, hall⟩ := hr hb
  rw [hc] at hts
  cases hts
  have h1 : 0 < cs.size := by omega
  obtain ⟨u, hu', hok⟩ := hall 0 cs[0] (by simp [h1])
  have : u = t := by simpa using hu'.symm
  subst this
  have hcell : w.cell? ⟨g, 0, none⟩ = some cs[0] := by simp [World.cell?, hh, h1]
  rw [hcell]
  unfold Cell.ok at hok
  rw [hu] at hok
  cases hv : cs[0] <;> rw [hv] at hok <;> simp at hok
  rename_i k n
  obtain ⟨rfl, _⟩ := hok
  exact ⟨n, rfl⟩

theorem maxL_of {W : World} (h : W.ShapedOpen Tryd.prog) : MaxL W :=
  int_of_shape (t := 3) (zero := #[.int .i64 0]) h (of_decide_eq_true (by kernel_rfl)) (by kernel_rfl) rfl (by kernel_rfl) (by kernel_rfl) Tryd.underlying3

/-- the cells that a table's datum is, of numbers or of structs of numbers -/
def tabCells2 : DataW Unit → Array Value
  | .agg l => (l.flatMap fun | .lit (.int k z) => [Value.int k z] | .agg m => (m.map fun | .lit (.int k z) => Value.int k z | _ => .nilIface) | _ => []).toArray
  | _ => #[]

def layTab2 (d : DataW Unit) : Obj → Obj
  | .cells _ t frozen => .cells (tabCells2 d) t frozen
  | o => o

def textOfD : DataW Unit → ByteArray
  | .iface _ (.ptr (.agg [.lit (.string z)])) => ⟨z.toArray⟩
  | _ => ⟨#[]⟩

noncomputable def low : Nat := (World.holding Tryd.prog default ⟨#[], #[], []⟩).heap.size

def layErr (b : Nat) : Obj → Obj
  | .cells _ t frozen => .cells #[.iface 154 (.pointer (some ⟨b, 0, none⟩))] t frozen
  | o => o

/-- a world that holds the tables and the errors -/
noncomputable def laidWorld7 (os : Os) : World :=
  let w0 := World.holding Tryd.prog os ⟨#[.cells #[.string (textOfD Rows.laid_strconv_ErrRange)] 156, .cells #[.string (textOfD Rows.laid_strconv_ErrSyntax)] 156], #[], []⟩
  { w0 with heap := (((((((w0.heap.modify 1 (layTab2 Rows.laid_internal_strconv_uint64pow10)).modify 7 (layTab2 Rows.laid_math_bits_deBruijn32tab)).modify 8 (layTab2 Rows.laid_math_bits_deBruijn64tab)).modify 6 (layTab2 Rows.laid_unicode_utf8_acceptRanges)).modify 5 (layTab2 Rows.laid_unicode_utf8_first)).modify 4 (layErr low)).modify 3 (layErr (low + 1))) }

end Go.Proofs.YtkpaocejpjhkpaaDoor
