/-
  Several texts as one: contracts that the law leans on; each part says what it proves and its conditions.
-/
import Derived.Test.YtkpaocejpjhkpaaGreatDoorTo
import Derived.Test.YtkpaocejpjhkpaaGreatDoorIntSet
import Derived.Test.YtkpaocejpjhkpaaGreatDoorOpenSl
import Derived.Deep.Slices
import Derived.Deep.Fields
import Derived.Deep.Strs
import Derived.Lib.SmallJoins
import Derived.Test.YtkpaocejpjhkpaaGreatDoorTxt
import Derived.ChangeVars
import Derived.SevenTiedAt
import Derived.LaidOnce
import Derived.Lib.LaidTab
import Derived.Test.YtkpaocejpjhkpaaGreatDoorTie
import Derived.Test.YtkpaocejpjhkpaaGreatDoorImplRd
import Derived.Deep.DeepLaidRun
import Derived.LaidLaws
import Derived.ShapedOpen

/- Contracts of markStore and heldStore: marks are written into every object of a store, and found there. -/
namespace Go.Proofs.YtkpaocejpjhkpaaGreatDoor
open Go.ChangeShapes Go.WideShapes Go.ChangeAt Go.RowKit
set_option linter.unusedVariables false

theorem markStore_any (A : Option Addr) (c : Nat) (next k : Int) (xs : List GObj) (B : Nat) (w : World) (h : ObjsAt w B A xs) (hf : Free w A) (hA : ∀ b, blk A = some b → b < w.heap.size) (hB : B ≤ w.heap.size) (hl : xs.length ≤ 16777216) (hk0 : 0 ≤ k) (hk : k ≤ 16777216) :
    Calls Tryz.prog 11 #[.agg #[.slice A xs.length c, .int .i64 next], .int .i64 k] w fun e w' => e = .returned (.int .i64 (k + 3 * xs.length)) ∧ ObjsAt w' B A (marks k xs.length) ∧ w.grownBy w' (blk A) ∧ Free w' A := by
  have H := Lib.hid h; clear h
  have Hf := Lib.hid hf; clear hf
  have HA := Lib.hid hA; clear hA
  go_enter Tryz.func11, Tryz.ntmps11
  go_wp2_with fail
  refine (markObjectS_any A c k xs B _ (Sl.below H.out (bal (Below.refl _ _) _) hB) (Hf.out.below (bal (Below.refl _ _) _) HA.out) (by simp; omega) hl hk0 hk).mono ?_
  rintro e w1 ⟨rfl, ho, hg, hf1⟩
  have hg1 : w.grownBy w1 (blk A) := grown_trans (World.grownBy_alloc w _ _) hg
  have Ho := Lib.hid ho; clear ho hg
  have Hf1 := Lib.hid hf1; clear hf1
  go_wp2
  go_ret
  exact ⟨rfl, Ho.out, hg1, Hf1.out⟩

theorem heldStore_any (A : Option Addr) (c n : Nat) (next k : Int) (B : Nat) (w : World) (h : ObjsAt w B A (marks k n)) (hB : B ≤ w.heap.size) (hl : n ≤ 16777216) (hk0 : 0 ≤ k) (hk : k ≤ 16777216) :
    Calls Tryz.prog 12 #[.agg #[.slice A n c, .int .i64 next], .int .i64 k] w fun e w' => e = .returned (.int .i64 (k + 3 * n)) ∧ Below w.heap.size w w' := by
  have H := Lib.hid h; clear h
  have hd : decide (k + 3 * (n : Int) < 0) = false := by simp; omega
  go_enter Tryz.func12, Tryz.ntmps12
  go_wp2_with fail
  refine (heldObjectS_any A c n k B _ (Sl.below H.out (bal (Below.refl _ _) _) hB) (by simp; omega) hl hk0 hk).mono ?_
  rintro e w1 ⟨rfl, hb1⟩
  have hb2 := bnext (bal (Below.refl _ _) _) hb1
  clear hb1
  go_wp2
  go_ret
  exact ⟨rfl, hb2⟩

end Go.Proofs.YtkpaocejpjhkpaaGreatDoor

/- Contracts of toObjectS and toStore again, with the new slice's address said. -/
namespace Go.Proofs.YtkpaocejpjhkpaaGreatDoor
open Go.ChangeShapes Go.WideShapes Go.ChangeAt Go.RowKit
set_option linter.unusedVariables false

set_option maxRecDepth 100000 in
theorem toObjectS_at (A : Option Addr) (c : Nat) (xs : List GObj) (B : Nat) (w : World) (h : ObjsAt w B A xs) (hB : B ≤ w.heap.size) (hl : xs.length ≤ 1048576) :
    Calls Tryz.prog 21 #[.slice A xs.length c] w fun e w' => ∃ g c' : Nat, e = .returned (.slice (some ⟨g, 0, none⟩) xs.length c') ∧ ObjsAt w' w'.heap.size (some ⟨g, 0, none⟩) xs ∧ Free w' (some ⟨g, 0, none⟩) ∧ (∀ b, blk (some ⟨g, 0, none⟩) = some b → w.heap.size ≤ b ∧ b < w'.heap.size) ∧ xs.length ≤ c' ∧ Below w.heap.size w w' := by
  have H := Lib.hid h; clear h
  have hmk := make_objs xs.length hl
  go_enter Tryz.func21, Tryz.ntmps21
  go_wp2_with fail
  have hsl := zeroObjs_sl xs.length w
  have hfr := zeroObjs_free xs.length w
  have hbw : Below w.heap.size w (w.alloc (zeroObjs xs.length)) := bal (Below.refl _ _) _
  have hsz : w.heap.size < (w.alloc (zeroObjs xs.length)).heap.size := by simp
  generalize w.alloc (zeroObjs xs.length) = w0 at hsl hfr hbw hsz ⊢
  clear hmk
  have Hsl := Lib.hid hsl; clear hsl
  have Hfr := Lib.hid hfr; clear hfr
  go_loopw [4] (fun i wr => ∃ j : Nat, j ≤ xs.length ∧ i = .int .i64 j ∧ Hid (ObjsAt wr (w.heap.size + 1) (some ⟨w.heap.size, 0, none⟩) (xs.take j ++ (List.replicate xs.length zObj).drop j)) ∧ Hid (Free wr (some ⟨w.heap.size, 0, none⟩)) ∧ w.heap.size < wr.heap.size ∧ Below w.heap.size w wr) (fun i _ => xs.length - (intOf i).toNat)
  case atStart => exact ⟨0, by omega, rfl, Lib.hid (by simpa using Hsl.out), Hfr, hsz, hbw⟩
  case round =>
    clear Hsl Hfr hbw hsz
    obtain ⟨j, hj, rfl, Hr, Hf, hs, hb⟩ := hrel
    by_cases hlt : j < xs.length
    · obtain ⟨b, off, rfl, hbB, p0, p1, p2⟩ := ObjsAt.obj (Sl.below H.out hb hB) hlt
      have hjl : j < (xs.take j ++ (List.replicate xs.length zObj).drop j).length := by simp; omega
      obtain ⟨g, o, e, hgB, q0, q1, q2⟩ := ObjsAt.obj Hr.out hjl
      injection e with e
      injection e with e1 e2
      subst e1 e2
      obtain ⟨v0, q0⟩ : ∃ v, wr.cell? ⟨w.heap.size, 0 + j * 3, none⟩ = some v := ⟨_, q0⟩
      obtain ⟨v1, q1⟩ : ∃ v, wr.cell? ⟨w.heap.size, 0 + j * 3 + 1, none⟩ = some v := ⟨_, q1⟩
      obtain ⟨v2, q2⟩ : ∃ v, wr.cell? ⟨w.heap.size, 0 + j * 3 + 2, none⟩ = some v := ⟨_, q2⟩
      have fz : ∀ i, wr.frozen? ⟨w.heap.size, i, none⟩ = false := Hf.out _ rfl
      rw [Nat.zero_add] at q0 q1 q2
      have Q0 := Lib.hid q0; clear q0
      have Q1 := Lib.hid q1; clear q1
      have Q2 := Lib.hid q2; clear q2
      have Fz := Lib.hid fz; clear fz
      go_wp2_with fail
      refine (toObject_any xs[j] wr).mono ?_
      rintro e w1 ⟨rfl, hb1⟩
      have c0 : w1.cell? ⟨w.heap.size, j * 3, none⟩ = some v0 := (hb1.cell hs).trans Q0.out
      have c1 : w1.cell? ⟨w.heap.size, j * 3 + 1, none⟩ = some v1 := (hb1.cell hs).trans Q1.out
      have c2 : w1.cell? ⟨w.heap.size, j * 3 + 2, none⟩ = some v2 := (hb1.cell hs).trans Q2.out
      have f0 : w1.frozen? ⟨w.heap.size, j * 3, none⟩ = false := (hb1.frozen hs).trans (Fz.out _)
      have f1 : w1.frozen? ⟨w.heap.size, j * 3 + 1, none⟩ = false := (hb1.frozen hs).trans (Fz.out _)
      have f2 : w1.frozen? ⟨w.heap.size, j * 3 + 2, none⟩ = false := (hb1.frozen hs).trans (Fz.out _)
      have hn := ObjsAt.store (w1 := w1) Hr.out hjl (fun i => hb1.cell hs) xs[j]
      rw [take_set xs _ j hlt (by simpa using hlt)] at hn
      have Hn := Lib.hid hn; clear hn
      have hfn : Free (((w1.setCell ⟨w.heap.size, j * 3, none⟩ (.string xs[j].key)).setCell ⟨w.heap.size, j * 3 + 1, none⟩ (.int .i64 xs[j].ver)).setCell ⟨w.heap.size, j * 3 + 2, none⟩ (.string xs[j].data)) (some ⟨w.heap.size, 0, none⟩) := fun b e i => by
        simp [blk] at e; subst e
        rw [frozen_setCell, frozen_setCell, frozen_setCell]; exact (hb1.frozen hs).trans (Fz.out i)
      have Hfn := Lib.hid hfn; clear hfn
      have hsn : w.heap.size < w1.heap.size := by have := hb1.size; omega
      have hbn : Below w.heap.size w (((w1.setCell ⟨w.heap.size, j * 3, none⟩ (.string xs[j].key)).setCell ⟨w.heap.size, j * 3 + 1, none⟩ (.int .i64 xs[j].ver)).setCell ⟨w.heap.size, j * 3 + 2, none⟩ (.string xs[j].data)) :=
        bset (bset (bset (bnext hb hb1) (Nat.le_refl _) _) (Nat.le_refl _) _) (Nat.le_refl _) _
      have Hbn := Lib.hid hbn; clear hbn
      go_wp2
      go_roundw
      case rel => exact ⟨j + 1, by omega, by go_num, Hn, Hfn, by simpa [World.setCell] using hsn, Hbn.out⟩
      case measure => simp [intOf]; omega
    · obtain rfl : j = xs.length := by omega
      have hn : ObjsAt wr (w.heap.size + 1) (some ⟨w.heap.size, 0, none⟩) xs := by simpa using Hr.out
      have Hn := Lib.hid hn; clear hn
      go_wp2
      go_ret
      exact ⟨_, _, rfl, Sl.more Hn.out hs, Hf.out, fun b e => by simp [blk] at e; subst e; exact ⟨Nat.le_refl _, hs⟩, Nat.le_refl _, hb⟩

theorem toStore_at (A : Option Addr) (c : Nat) (next : Int) (xs : List GObj) (B : Nat) (w : World) (h : ObjsAt w B A xs) (hB : B ≤ w.heap.size) (hl : xs.length ≤ 1048576) :
    Calls Tryz.prog 8 #[.agg #[.slice A xs.length c, .int .i64 next]] w fun e w' => ∃ g c' : Nat, e = .returned (.agg #[.slice (some ⟨g, 0, none⟩) xs.length c', .int .i64 next]) ∧ ObjsAt w' w'.heap.size (some ⟨g, 0, none⟩) xs ∧ Free w' (some ⟨g, 0, none⟩) ∧ (∀ b, blk (some ⟨g, 0, none⟩) = some b → w.heap.size ≤ b ∧ b < w'.heap.size) ∧ xs.length ≤ c' ∧ Below w.heap.size w w' := by
  have H := Lib.hid h; clear h
  go_enter Tryz.func8, Tryz.ntmps8
  go_wp2_with fail
  refine (toObjectS_at A c xs B _ (Sl.below H.out (bal (bal (bal (Below.refl _ _) _) _) _) hB) (by simp; omega) hl).mono ?_
  rintro e w1 ⟨g1, c1, rfl, ho, hf, hbl, hc, hb1⟩
  have hsz : w.heap.size + 3 ≤ w1.heap.size := by have := hb1.size; simp at this; omega
  have b0 : w1.cell? ⟨w.heap.size, 1, none⟩ = some (.int .i64 next) := by rw [hb1.cell (by simp <;> omega)]; simp [go_sem]
  have b1 : w1.cell? ⟨w.heap.size + 1, 0, none⟩ = some (.slice none 0 0) := by rw [hb1.cell (by simp <;> omega)]; simp [go_sem]
  have b2 : w1.cell? ⟨w.heap.size + 1, 1, none⟩ = some (.int .i64 0) := by rw [hb1.cell (by simp <;> omega)]; simp [go_sem]
  have b3 : w1.cell? ⟨w.heap.size + 1 + 1, 0, none⟩ = some (.slice none 0 0) := by rw [hb1.cell (by simp)]; simp [go_sem]
  have b4 : w1.cell? ⟨w.heap.size + 1 + 1, 1, none⟩ = some (.int .i64 0) := by rw [hb1.cell (by simp)]; simp [go_sem]
  have f1 : w1.frozen? ⟨w.heap.size + 1, 0, none⟩ = false := by rw [hb1.frozen (by simp <;> omega)]; simp [go_sem]
  have f2 : w1.frozen? ⟨w.heap.size + 1, 1, none⟩ = false := by rw [hb1.frozen (by simp <;> omega)]; simp [go_sem]
  have f3 : w1.frozen? ⟨w.heap.size + 1 + 1, 0, none⟩ = false := by rw [hb1.frozen (by simp)]; simp [go_sem]
  have f4 : w1.frozen? ⟨w.heap.size + 1 + 1, 1, none⟩ = false := by rw [hb1.frozen (by simp)]; simp [go_sem]
  have hb2 : Below w.heap.size w w1 := bnext (bal (bal (bal (Below.refl _ _) _) _) _) hb1
  have hbl2 : ∀ b, blk (some (⟨g1, 0, none⟩ : Addr)) = some b → w.heap.size + 3 ≤ b ∧ b < w1.heap.size := fun b e => ⟨by have := (hbl b e).1; simp at this; omega, (hbl b e).2⟩
  have Hbl := Lib.hid hbl2
  have Ho := Lib.hid ho
  have Hf := Lib.hid hf
  clear hbl hbl2 ho hf hb1
  go_wp2
  refine bodyPost_ret (v := .agg #[.slice (some ⟨g1, 0, none⟩) xs.length c1, .int .i64 next]) (by simp [results, Tryz.results8, go_sem, *]) rfl ⟨g1, c1, rfl, ?_, ?_, ?_, hc, ?_⟩
  · rw [size_setCell, size_setCell, size_setCell, size_setCell]
    refine Sl.far (Sl.far (Sl.far (Sl.far Ho.out ?_ _) ?_ _) ?_ _) ?_ _
    all_goals (intro b e; have := (Hbl.out b e).1; dsimp only; omega)
  · exact (((Hf.out.setCell _ _).setCell _ _).setCell _ _).setCell _ _
  · intro b e
    rw [size_setCell, size_setCell, size_setCell, size_setCell]
    exact ⟨by have := (Hbl.out b e).1; omega, (Hbl.out b e).2⟩
  · exact bset (bset (bset (bset hb2 (by show _ ≤ w.heap.size + 1 + 1; omega) _) (by show _ ≤ w.heap.size + 1 + 1; omega) _) (by show _ ≤ w.heap.size + 1; omega) _) (by show _ ≤ w.heap.size + 1; omega) _

end Go.Proofs.YtkpaocejpjhkpaaGreatDoor

/- A slice that came in, opened: whatever its element, each as so many cells; a slice of objects; a store. No Go text is walked here. -/
namespace Go.Proofs.YtkpaocejpjhkpaaGreatDoor
open Go.ChangeShapes Go.WideShapes Go.ChangeAt Go.RowKit Go.Deep Go.Joins
set_option linter.unusedVariables false

theorem cellsLObj : Tryz.prog.cellsOf 58 = 3 := by kernel_rfl

theorem cellsLStore : Tryz.prog.cellsOf 24 = 2 := by kernel_rfl

theorem cellsInt : Tryz.prog.cellsOf 3 = 1 := by kernel_rfl

theorem cellsString : Tryz.prog.cellsOf 9 = 1 := by kernel_rfl

section

variable {H : Type} {enc : TypeId × Value → H} {w : World} {base : Nat} {spare : Nat → Bool} {held : Bool}

theorem open_obj' {P : Program} {t : TypeId} {f0 f1 f2 : Field} {n : Nat} {cs : List Value} {y : DataW H × List MemPlace} (ht : P.underlying t = some (.struct #[f0, f1, f2])) (hone : oneCellFields P #[f0, f1, f2] = true)
    (g0 : P.underlying f0.type = some .string) (g1 : P.underlying f1.type = some (.int .i64)) (g2 : P.underlying f2.type = some .string) (hl : cs.length = 3) (h : DataW.trod enc P w base spare held n t cs = some y) : ∃ o : GObj, cs = o.vals ∧ o.fit := by
  obtain ⟨y0, y1, y2, m, _, _, h0, h1, h2⟩ := trod_struct3 ht h
  obtain ⟨o0, k0⟩ := hone_of hone 0 f0 rfl
  obtain ⟨o1, k1⟩ := hone_of hone 1 f1 rfl
  obtain ⟨o2, k2⟩ := hone_of hone 2 f2 rfl
  match cs, hl with
  | [a, b, c], _ =>
    rw [o0, k0] at h0
    rw [o1, k1] at h1
    rw [o2, k2] at h2
    obtain ⟨s0, e0, _, l0⟩ := DataW.trod_string g0 h0
    obtain ⟨z1, e1, _, l1⟩ := DataW.trod_int g1 h1
    obtain ⟨s2, e2, _, l2⟩ := DataW.trod_string g2 h2
    simp at e0 e1 e2
    subst e0 e1 e2
    exact ⟨⟨s0, z1, s2⟩, rfl, ⟨l0, l2⟩, l1⟩

theorem open_store' {P : Program} {t e : TypeId} {f0 f1 g0 g1 g2 : Field} {W : World} {r : Reach} {b0 : Nat} {v : Value} {d : DataW H} {p : List MemPlace} (ht : P.underlying t = some (.struct #[f0, f1])) (hone : oneCellFields P #[f0, f1] = true) (hC : P.cellsOf t = 2)
    (hs : P.underlying f0.type = some (.slice e)) (hn : P.underlying f1.type = some (.int .i64)) (he : P.underlying e = some (.struct #[g0, g1, g2])) (hone2 : oneCellFields P #[g0, g1, g2] = true) (hce : P.cellsOf e = 3)
    (k0 : P.underlying g0.type = some .string) (k1 : P.underlying g1.type = some (.int .i64)) (k2 : P.underlying g2.type = some .string)
    (hv : Value.okWide P W r b0 t v) (h : DataW.Trod enc P W base spare held t v d p) :
    ∃ (A : Option Addr) (c : Nat) (xs : List GObj) (next : Int), v = .agg #[.slice A xs.length c, .int .i64 next] ∧ ObjsAt W W.heap.size A xs ∧ (∀ o ∈ xs, o.fit) ∧ xs.length ≤ maxLen ∧ (Lit.int .i64 next).wf = true := by
  obtain ⟨c0, c1, y0, y1, m, rfl, _, _, h0, h1⟩ := open_agg2 ht hone hC hv h
  obtain ⟨z1, e1, _, l1⟩ := DataW.trod_int hn h1
  obtain ⟨A, c, xs, rfl, hs, hq, hl⟩ := open_sl GObj.vals 3 GObj.fit hs hce (by omega) (fun n cs y hc hy => open_obj' he hone2 k0 k1 k2 hc hy) h0
  simp at e1
  subst e1
  exact ⟨A, c, xs, z1, rfl, hs, hq, hl, l1⟩

set_option maxRecDepth 100000 in
theorem open_store {W : World} {r : Reach} {b0 : Nat} {v : Value} {d : DataW H} {p : List MemPlace} (hv : Value.okWide Tryz.prog W r b0 24 v) (h : DataW.Trod enc Tryz.prog W base spare held 24 v d p) :
    ∃ (A : Option Addr) (c : Nat) (xs : List GObj) (next : Int), v = .agg #[.slice A xs.length c, .int .i64 next] ∧ ObjsAt W W.heap.size A xs ∧ (∀ o ∈ xs, o.fit) ∧ xs.length ≤ maxLen ∧ (Lit.int .i64 next).wf = true :=
  open_store' Tryz.underlying24 (by kernel_rfl) cellsLStore Tryz.underlying22 Tryz.underlying3 Tryz.underlying58 (by kernel_rfl) cellsLObj Tryz.underlying9 Tryz.underlying3 Tryz.underlying9 hv h

end

end Go.Proofs.YtkpaocejpjhkpaaGreatDoor

/- The library's tables as the program's text lays them: from the condition of a row to what the contracts ask; a world that holds them. -/
namespace Go.Proofs.YtkpaocejpjhkpaaGreatDoor
open Go.ChangeShapes Go.WideShapes Go.ChangeAt Go.RowKit
set_option linter.unusedVariables false

theorem own : ownKnob Tryz.prog.godebug = none := by kernel_rfl
theorem laidOut : laidOutB Tryz.prog = true := by kernel_rfl

theorem pow_data : (Rows.laid_internal_strconv_uint64pow10 : DataW Unit) = Lib.tabData .u64 Lib.pow10Tab := by rfl

theorem powG : Tryz.prog.globalNamed "internal/strconv.uint64pow10" = some 0 := by kernel_rfl
theorem powT : (Tryz.prog.globals[0]?).map (·.type) = some 179 := by kernel_rfl
theorem powC : Tryz.prog.cellsOf 179 = 20 := by kernel_rfl
theorem powE : Tryz.prog.cellsOf 148 = 1 := by kernel_rfl

theorem pow_of {W : World} {n1 n2 : String} {d1 d2 : DataW Unit} {rest : List (String × DataW Unit)} (h : laidMet Tryz.prog ((n1, d1) :: (n2, d2) :: ("internal/strconv.uint64pow10", Rows.laid_internal_strconv_uint64pow10) :: rest) W) : Pow W := by
  obtain ⟨ps, ⟨g1, t1, cs1, f1, p1, q1, _, _, _, _, ⟨g2, t2, cs2, f2, p2, q2, _, _, _, _, ⟨g', t', cs, fuel, p, q, hg', ht', hvar, hd, _, _⟩, _⟩, _⟩, _⟩ := h
  obtain rfl := Option.some.inj (powG.symm.trans hg')
  obtain rfl := Option.some.inj (powT.symm.trans ht')
  rw [pow_data] at hd
  unfold Pow Lib.TabIs
  rw [hvar, ← Lib.cells_of_tab Tryz.underlying179 Tryz.underlying148 powE powC hd]

/-- the cells that a table's datum is -/
def tabCells : DataW Unit → Array Value
  | .agg l => (l.map fun | .lit (.int k z) => Value.int k z | _ => .nilIface).toArray
  | _ => #[]

/-- what a table is laid as -/
def layTab (d : DataW Unit) : Obj → Obj
  | .cells _ t frozen => .cells (tabCells d) t frozen
  | o => o

/-- a world that holds the three tables -/
noncomputable def laidWorld (os : Os) : World :=
  { World.holding Tryz.prog os ⟨#[], #[], []⟩ with heap := (((World.holding Tryz.prog os ⟨#[], #[], []⟩).heap.modify 0 (layTab Rows.laid_internal_strconv_uint64pow10)).modify 6 (layTab Rows.laid_math_bits_deBruijn32tab)).modify 7 (layTab Rows.laid_math_bits_deBruijn64tab) }

end Go.Proofs.YtkpaocejpjhkpaaGreatDoor

/- The library's tables, its two errors' variables and its MaxLen: from the conditions of a row to what the contracts ask; a world that holds them. -/
namespace Go.Proofs.YtkpaocejpjhkpaaGreatDoor
open Go.ChangeShapes Go.WideShapes Go.ChangeAt Go.RowKit
set_option linter.unusedVariables false

theorem synG : Tryz.prog.globalNamed "strconv.ErrSyntax" = some 2 := by kernel_rfl
theorem synT : (Tryz.prog.globals[2]?).map (·.type) = some 131 := by kernel_rfl
theorem ranG : Tryz.prog.globalNamed "strconv.ErrRange" = some 3 := by kernel_rfl
theorem ranT : (Tryz.prog.globals[3]?).map (·.type) = some 131 := by kernel_rfl

theorem errs_of2 {W : World} {cs cs' : Array Value} {f f' : Nat} {p p' : List MemPlace} {nm nm' : String} {d d' : DataW Unit} (h1 : W.var? Tryz.prog "strconv.ErrRange" = some cs) (k1 : DataW.trod (fun _ => ()) Tryz.prog W 0 (fun _ => true) false f 131 cs.toList = some (.iface nm d, p))
    (h2 : W.var? Tryz.prog "strconv.ErrSyntax" = some cs') (k2 : DataW.trod (fun _ => ()) Tryz.prog W 0 (fun _ => true) false f' 131 cs'.toList = some (.iface nm' d', p')) : Errs W := by
  obtain ⟨_, u, v, e, _⟩ := iface_of_trod Tryz.underlying131 k1
  obtain ⟨_, u', v', e', _⟩ := iface_of_trod Tryz.underlying131 k2
  have c1 := World.var?_cell ranG h1 0
  have c2 := World.var?_cell synG h2 0
  rw [show cs[0]? = cs.toList[0]? by simp, e] at c1
  rw [show cs'[0]? = cs'.toList[0]? by simp, e'] at c2
  exact ⟨⟨_, c2, Or.inr ⟨u', v', rfl⟩⟩, ⟨_, c1, Or.inr ⟨u, v, rfl⟩⟩⟩

theorem errs_of7 {W : World} {n1 n2 n3 n4 : String} {d1 d2 d3 d4 : DataW Unit} {rest : List (String × DataW Unit)} (h : laidMet Tryz.prog ((n1, d1) :: (n2, d2) :: (n3, d3) :: (n4, d4) :: ("strconv.ErrRange", Rows.laid_strconv_ErrRange) :: ("strconv.ErrSyntax", Rows.laid_strconv_ErrSyntax) :: rest) W) : Errs W := by
  obtain ⟨ps, ⟨g1, t1, cs1, f1, p1, q1, _, _, _, _, ⟨g2, t2, cs2, f2, p2, q2, _, _, _, _, ⟨g3, t3, cs3, f3, p3, q3, _, _, _, _, ⟨g4, t4, cs4, f4, p4, q4, _, _, _, _, ⟨g5, t5, cs5, f5, p5, q5, hg5, ht5, hv5, hd5, ⟨g6, t6, cs6, f6, p6, q6, hg6, ht6, hv6, hd6, _, _⟩, _⟩, _⟩, _⟩, _⟩, _⟩, _⟩ := h
  obtain rfl := Option.some.inj (ranG.symm.trans hg5)
  obtain rfl := Option.some.inj (ranT.symm.trans ht5)
  obtain rfl := Option.some.inj (synG.symm.trans hg6)
  obtain rfl := Option.some.inj (synT.symm.trans ht6)
  exact errs_of2 hv5 hd5 hv6 hd6

theorem errs_of5 {W : World} {n1 n2 n3 : String} {d1 d2 d3 : DataW Unit} {rest : List (String × DataW Unit)} (h : laidMet Tryz.prog ((n1, d1) :: (n2, d2) :: (n3, d3) :: ("strconv.ErrRange", Rows.laid_strconv_ErrRange) :: ("strconv.ErrSyntax", Rows.laid_strconv_ErrSyntax) :: rest) W) : Errs W := by
  obtain ⟨ps, ⟨g1, t1, cs1, f1, p1, q1, _, _, _, _, ⟨g2, t2, cs2, f2, p2, q2, _, _, _, _, ⟨g3, t3, cs3, f3, p3, q3, _, _, _, _, ⟨g5, t5, cs5, f5, p5, q5, hg5, ht5, hv5, hd5, ⟨g6, t6, cs6, f6, p6, q6, hg6, ht6, hv6, hd6, _, _⟩, _⟩, _⟩, _⟩, _⟩, _⟩ := h
  obtain rfl := Option.some.inj (ranG.symm.trans hg5)
  obtain rfl := Option.some.inj (ranT.symm.trans ht5)
  obtain rfl := Option.some.inj (synG.symm.trans hg6)
  obtain rfl := Option.some.inj (synT.symm.trans ht6)
  exact errs_of2 hv5 hd5 hv6 hd6

/-- a variable of an int holds one -/
theorem int_of_shape {P : Program} {w : World} {g : Nat} {t : TypeId} {zero : Array Value} (h : w.ShapedOpen P) (hg : g < P.globals.size)
    (h0 : ((begin P (fun _ _ => 0) default).world.heap[g]?).bind Obj.row? = some (zero, t)) (hz : zero.size = 1)
    (hb : P.buildable t = true) (hc : P.cellTypes P.depth t = some [t]) (hu : P.underlying t = some (.int .i64)) : ∃ m, w.cell? ⟨g, 0, none⟩ = some (.int .i64 m) := by
  obtain ⟨cs, hh, hs, hr⟩ := h.1 g zero t hg h0
  obtain ⟨ts, hts, _, hall⟩ := hr hb
  rw [hc] at hts
  cases hts
  have h1 : 0 < cs.size := by omega
  obtain ⟨u, hu', hok⟩ := hall 0 cs[0] (by simp [h1])
  have : u = t := by simpa using hu'.symm
  subst this
  have hcell : w.cell? ⟨g, 0, none⟩ = some cs[0] := by simp [World.cell?, hh, h1]
  rw [hcell]
  unfold Cell.ok at hok
  rw [hu] at hok
  cases hv : cs[0] <;> rw [hv] at hok <;> simp at hok
  rename_i k n
  obtain ⟨rfl, _⟩ := hok
  exact ⟨n, rfl⟩

theorem maxL_of {W : World} (h : W.ShapedOpen Tryz.prog) : MaxL W :=
  int_of_shape (t := 3) (zero := #[.int .i64 0]) h (of_decide_eq_true (by kernel_rfl)) (by kernel_rfl) rfl (by kernel_rfl) (by kernel_rfl) Tryz.underlying3

/-- the cells that a table's datum is, of numbers or of structs of numbers -/
def tabCells2 : DataW Unit → Array Value
  | .agg l => (l.flatMap fun | .lit (.int k z) => [Value.int k z] | .agg m => (m.map fun | .lit (.int k z) => Value.int k z | _ => .nilIface) | _ => []).toArray
  | _ => #[]

def layTab2 (d : DataW Unit) : Obj → Obj
  | .cells _ t frozen => .cells (tabCells2 d) t frozen
  | o => o

def textOfD : DataW Unit → ByteArray
  | .iface _ (.ptr (.agg [.lit (.string z)])) => ⟨z.toArray⟩
  | _ => ⟨#[]⟩

noncomputable def low : Nat := (World.holding Tryz.prog default ⟨#[], #[], []⟩).heap.size

def layErr (b : Nat) : Obj → Obj
  | .cells _ t frozen => .cells #[.iface 194 (.pointer (some ⟨b, 0, none⟩))] t frozen
  | o => o

/-- a world that holds the tables and the errors -/
noncomputable def laidWorld7 (os : Os) : World :=
  let w0 := World.holding Tryz.prog os ⟨#[.cells #[.string (textOfD Rows.laid_strconv_ErrRange)] 196, .cells #[.string (textOfD Rows.laid_strconv_ErrSyntax)] 196], #[], []⟩
  { w0 with heap := (((((((w0.heap.modify 0 (layTab2 Rows.laid_internal_strconv_uint64pow10)).modify 6 (layTab2 Rows.laid_math_bits_deBruijn32tab)).modify 7 (layTab2 Rows.laid_math_bits_deBruijn64tab)).modify 5 (layTab2 Rows.laid_unicode_utf8_acceptRanges)).modify 4 (layTab2 Rows.laid_unicode_utf8_first)).modify 3 (layErr low)).modify 2 (layErr (low + 1))) }

end Go.Proofs.YtkpaocejpjhkpaaGreatDoor
