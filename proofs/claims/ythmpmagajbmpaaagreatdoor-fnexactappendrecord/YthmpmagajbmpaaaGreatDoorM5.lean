/-
  Several texts as one: contracts that the law leans on; each part says what it proves and its conditions.
-/
import Derived.Test.YthmpmagajbmpaaaGreatDoorM2
import Derived.Test.YthmpmagajbmpaaaGreatDoorOpenSl
import Derived.Deep.Slices
import Derived.Deep.Fields
import Derived.Deep.Strs
import Derived.Lib.SmallJoins
import Derived.Test.YthmpmagajbmpaaaGreatDoorTxt
import Derived.ChangeVars
import Derived.SevenTiedAt
import Derived.LaidOnce
import Derived.Lib.LaidTab
import Derived.Test.YthmpmagajbmpaaaGreatDoorTie
import Derived.Test.YthmpmagajbmpaaaGreatDoorKeyI
import Derived.WalkSmall
import Derived.Test.YthmpmagajbmpaaaGreatDoorTierA
import Derived.Test.YthmpmagajbmpaaaGreatDoorRecs
import Derived.Laws.IdiomArrays

/- Contracts of markStore and heldStore: marks are written into every object of a store, and found there. -/
namespace Go.Proofs.YthmpmagajbmpaaaGreatDoor
open Go.ChangeShapes Go.WideShapes Go.ChangeAt Go.RowKit
set_option linter.unusedVariables false

theorem markStore_any (A : Option Addr) (c : Nat) (next k : Int) (xs : List GObj) (B : Nat) (w : World) (h : ObjsAt w B A xs) (hf : Free w A) (hA : ∀ b, blk A = some b → b < w.heap.size) (hB : B ≤ w.heap.size) (hl : xs.length ≤ 16777216) (hk0 : 0 ≤ k) (hk : k ≤ 16777216) :
    Calls Tryz.prog 20 #[.agg #[.slice A xs.length c, .int .i64 next], .int .i64 k] w fun e w' => e = .returned (.int .i64 (k + 3 * xs.length)) ∧ ObjsAt w' B A (marks k xs.length) ∧ w.grownBy w' (blk A) ∧ Free w' A := by
  have H := Lib.hid h; clear h
  have Hf := Lib.hid hf; clear hf
  have HA := Lib.hid hA; clear hA
  go_enter Tryz.func20, Tryz.ntmps20
  go_wp2_with fail
  refine (markObjectS_any A c k xs B _ (Sl.below H.out (bal (Below.refl _ _) _) hB) (Hf.out.below (bal (Below.refl _ _) _) HA.out) (by simp; omega) hl hk0 hk).mono ?_
  rintro e w1 ⟨rfl, ho, hg, hf1⟩
  have hg1 : w.grownBy w1 (blk A) := grown_trans (World.grownBy_alloc w _ _) hg
  have Ho := Lib.hid ho; clear ho hg
  have Hf1 := Lib.hid hf1; clear hf1
  go_wp2
  go_ret
  exact ⟨rfl, Ho.out, hg1, Hf1.out⟩

theorem heldStore_any (A : Option Addr) (c n : Nat) (next k : Int) (B : Nat) (w : World) (h : ObjsAt w B A (marks k n)) (hB : B ≤ w.heap.size) (hl : n ≤ 16777216) (hk0 : 0 ≤ k) (hk : k ≤ 16777216) :
    Calls Tryz.prog 23 #[.agg #[.slice A n c, .int .i64 next], .int .i64 k] w fun e w' => e = .returned (.int .i64 (k + 3 * n)) ∧ Below w.heap.size w w' := by
  have H := Lib.hid h; clear h
  have hd : decide (k + 3 * (n : Int) < 0) = false := by simp; omega
  go_enter Tryz.func23, Tryz.ntmps23
  go_wp2_with fail
  refine (heldObjectS_any A c n k B _ (Sl.below H.out (bal (Below.refl _ _) _) hB) (by simp; omega) hl hk0 hk).mono ?_
  rintro e w1 ⟨rfl, hb1⟩
  have hb2 := bnext (bal (Below.refl _ _) _) hb1
  clear hb1
  go_wp2
  go_ret
  exact ⟨rfl, hb2⟩

end Go.Proofs.YthmpmagajbmpaaaGreatDoor

/- Contracts of toObjectS and toStore again, with the new slice's address said. -/
namespace Go.Proofs.YthmpmagajbmpaaaGreatDoor
open Go.ChangeShapes Go.WideShapes Go.ChangeAt Go.RowKit
set_option linter.unusedVariables false

set_option maxRecDepth 100000 in
theorem toObjectS_at (A : Option Addr) (c : Nat) (xs : List GObj) (B : Nat) (w : World) (h : ObjsAt w B A xs) (hB : B ≤ w.heap.size) (hl : xs.length ≤ 1048576) :
    Calls Tryz.prog 49 #[.slice A xs.length c] w fun e w' => ∃ g c' : Nat, e = .returned (.slice (some ⟨g, 0, none⟩) xs.length c') ∧ ObjsAt w' w'.heap.size (some ⟨g, 0, none⟩) xs ∧ Free w' (some ⟨g, 0, none⟩) ∧ (∀ b, blk (some ⟨g, 0, none⟩) = some b → w.heap.size ≤ b ∧ b < w'.heap.size) ∧ xs.length ≤ c' ∧ Below w.heap.size w w' := by
  have H := Lib.hid h; clear h
  have hmk := make_objs xs.length hl
  go_enter Tryz.func49, Tryz.ntmps49
  go_wp2_with fail
  have hsl := zeroObjs_sl xs.length w
  have hfr := zeroObjs_free xs.length w
  have hbw : Below w.heap.size w (w.alloc (zeroObjs xs.length)) := bal (Below.refl _ _) _
  have hsz : w.heap.size < (w.alloc (zeroObjs xs.length)).heap.size := by simp
  generalize w.alloc (zeroObjs xs.length) = w0 at hsl hfr hbw hsz ⊢
  clear hmk
  have Hsl := Lib.hid hsl; clear hsl
  have Hfr := Lib.hid hfr; clear hfr
  go_loopw [4] (fun i wr => ∃ j : Nat, j ≤ xs.length ∧ i = .int .i64 j ∧ Hid (ObjsAt wr (w.heap.size + 1) (some ⟨w.heap.size, 0, none⟩) (xs.take j ++ (List.replicate xs.length zObj).drop j)) ∧ Hid (Free wr (some ⟨w.heap.size, 0, none⟩)) ∧ w.heap.size < wr.heap.size ∧ Below w.heap.size w wr) (fun i _ => xs.length - (intOf i).toNat)
  case atStart => exact ⟨0, by omega, rfl, Lib.hid (by simpa using Hsl.out), Hfr, hsz, hbw⟩
  case round =>
    clear Hsl Hfr hbw hsz
    obtain ⟨j, hj, rfl, Hr, Hf, hs, hb⟩ := hrel
    by_cases hlt : j < xs.length
    · obtain ⟨b, off, rfl, hbB, p0, p1, p2⟩ := ObjsAt.obj (Sl.below H.out hb hB) hlt
      have hjl : j < (xs.take j ++ (List.replicate xs.length zObj).drop j).length := by simp; omega
      obtain ⟨g, o, e, hgB, q0, q1, q2⟩ := ObjsAt.obj Hr.out hjl
      injection e with e
      injection e with e1 e2
      subst e1 e2
      obtain ⟨v0, q0⟩ : ∃ v, wr.cell? ⟨w.heap.size, 0 + j * 3, none⟩ = some v := ⟨_, q0⟩
      obtain ⟨v1, q1⟩ : ∃ v, wr.cell? ⟨w.heap.size, 0 + j * 3 + 1, none⟩ = some v := ⟨_, q1⟩
      obtain ⟨v2, q2⟩ : ∃ v, wr.cell? ⟨w.heap.size, 0 + j * 3 + 2, none⟩ = some v := ⟨_, q2⟩
      have fz : ∀ i, wr.frozen? ⟨w.heap.size, i, none⟩ = false := Hf.out _ rfl
      rw [Nat.zero_add] at q0 q1 q2
      have Q0 := Lib.hid q0; clear q0
      have Q1 := Lib.hid q1; clear q1
      have Q2 := Lib.hid q2; clear q2
      have Fz := Lib.hid fz; clear fz
      go_wp2_with fail
      refine (toObject_any xs[j] wr).mono ?_
      rintro e w1 ⟨rfl, hb1⟩
      have c0 : w1.cell? ⟨w.heap.size, j * 3, none⟩ = some v0 := (hb1.cell hs).trans Q0.out
      have c1 : w1.cell? ⟨w.heap.size, j * 3 + 1, none⟩ = some v1 := (hb1.cell hs).trans Q1.out
      have c2 : w1.cell? ⟨w.heap.size, j * 3 + 2, none⟩ = some v2 := (hb1.cell hs).trans Q2.out
      have f0 : w1.frozen? ⟨w.heap.size, j * 3, none⟩ = false := (hb1.frozen hs).trans (Fz.out _)
      have f1 : w1.frozen? ⟨w.heap.size, j * 3 + 1, none⟩ = false := (hb1.frozen hs).trans (Fz.out _)
      have f2 : w1.frozen? ⟨w.heap.size, j * 3 + 2, none⟩ = false := (hb1.frozen hs).trans (Fz.out _)
      have hn := ObjsAt.store (w1 := w1) Hr.out hjl (fun i => hb1.cell hs) xs[j]
      rw [take_set xs _ j hlt (by simpa using hlt)] at hn
      have Hn := Lib.hid hn; clear hn
      have hfn : Free (((w1.setCell ⟨w.heap.size, j * 3, none⟩ (.string xs[j].key)).setCell ⟨w.heap.size, j * 3 + 1, none⟩ (.int .i64 xs[j].ver)).setCell ⟨w.heap.size, j * 3 + 2, none⟩ (.string xs[j].data)) (some ⟨w.heap.size, 0, none⟩) := fun b e i => by
        simp [blk] at e; subst e
        rw [frozen_setCell, frozen_setCell, frozen_setCell]; exact (hb1.frozen hs).trans (Fz.out i)
      have Hfn := Lib.hid hfn; clear hfn
      have hsn : w.heap.size < w1.heap.size := by have := hb1.size; omega
      have hbn : Below w.heap.size w (((w1.setCell ⟨w.heap.size, j * 3, none⟩ (.string xs[j].key)).setCell ⟨w.heap.size, j * 3 + 1, none⟩ (.int .i64 xs[j].ver)).setCell ⟨w.heap.size, j * 3 + 2, none⟩ (.string xs[j].data)) :=
        bset (bset (bset (bnext hb hb1) (Nat.le_refl _) _) (Nat.le_refl _) _) (Nat.le_refl _) _
      have Hbn := Lib.hid hbn; clear hbn
      go_wp2
      go_roundw
      case rel => exact ⟨j + 1, by omega, by go_num, Hn, Hfn, by simpa [World.setCell] using hsn, Hbn.out⟩
      case measure => simp [intOf]; omega
    · obtain rfl : j = xs.length := by omega
      have hn : ObjsAt wr (w.heap.size + 1) (some ⟨w.heap.size, 0, none⟩) xs := by simpa using Hr.out
      have Hn := Lib.hid hn; clear hn
      go_wp2
      go_ret
      exact ⟨_, _, rfl, Sl.more Hn.out hs, Hf.out, fun b e => by simp [blk] at e; subst e; exact ⟨Nat.le_refl _, hs⟩, Nat.le_refl _, hb⟩

theorem toStore_at (A : Option Addr) (c : Nat) (next : Int) (xs : List GObj) (B : Nat) (w : World) (h : ObjsAt w B A xs) (hB : B ≤ w.heap.size) (hl : xs.length ≤ 1048576) :
    Calls Tryz.prog 17 #[.agg #[.slice A xs.length c, .int .i64 next]] w fun e w' => ∃ g c' : Nat, e = .returned (.agg #[.slice (some ⟨g, 0, none⟩) xs.length c', .int .i64 next]) ∧ ObjsAt w' w'.heap.size (some ⟨g, 0, none⟩) xs ∧ Free w' (some ⟨g, 0, none⟩) ∧ (∀ b, blk (some ⟨g, 0, none⟩) = some b → w.heap.size ≤ b ∧ b < w'.heap.size) ∧ xs.length ≤ c' ∧ Below w.heap.size w w' := by
  have H := Lib.hid h; clear h
  go_enter Tryz.func17, Tryz.ntmps17
  go_wp2_with fail
  refine (toObjectS_at A c xs B _ (Sl.below H.out (bal (bal (bal (Below.refl _ _) _) _) _) hB) (by simp; omega) hl).mono ?_
  rintro e w1 ⟨g1, c1, rfl, ho, hf, hbl, hc, hb1⟩
  have hsz : w.heap.size + 3 ≤ w1.heap.size := by have := hb1.size; simp at this; omega
  have b0 : w1.cell? ⟨w.heap.size, 1, none⟩ = some (.int .i64 next) := by rw [hb1.cell (by simp <;> omega)]; simp [go_sem]
  have b1 : w1.cell? ⟨w.heap.size + 1, 0, none⟩ = some (.slice none 0 0) := by rw [hb1.cell (by simp <;> omega)]; simp [go_sem]
  have b2 : w1.cell? ⟨w.heap.size + 1, 1, none⟩ = some (.int .i64 0) := by rw [hb1.cell (by simp <;> omega)]; simp [go_sem]
  have b3 : w1.cell? ⟨w.heap.size + 1 + 1, 0, none⟩ = some (.slice none 0 0) := by rw [hb1.cell (by simp)]; simp [go_sem]
  have b4 : w1.cell? ⟨w.heap.size + 1 + 1, 1, none⟩ = some (.int .i64 0) := by rw [hb1.cell (by simp)]; simp [go_sem]
  have f1 : w1.frozen? ⟨w.heap.size + 1, 0, none⟩ = false := by rw [hb1.frozen (by simp <;> omega)]; simp [go_sem]
  have f2 : w1.frozen? ⟨w.heap.size + 1, 1, none⟩ = false := by rw [hb1.frozen (by simp <;> omega)]; simp [go_sem]
  have f3 : w1.frozen? ⟨w.heap.size + 1 + 1, 0, none⟩ = false := by rw [hb1.frozen (by simp)]; simp [go_sem]
  have f4 : w1.frozen? ⟨w.heap.size + 1 + 1, 1, none⟩ = false := by rw [hb1.frozen (by simp)]; simp [go_sem]
  have hb2 : Below w.heap.size w w1 := bnext (bal (bal (bal (Below.refl _ _) _) _) _) hb1
  have hbl2 : ∀ b, blk (some (⟨g1, 0, none⟩ : Addr)) = some b → w.heap.size + 3 ≤ b ∧ b < w1.heap.size := fun b e => ⟨by have := (hbl b e).1; simp at this; omega, (hbl b e).2⟩
  have Hbl := Lib.hid hbl2
  have Ho := Lib.hid ho
  have Hf := Lib.hid hf
  clear hbl hbl2 ho hf hb1
  go_wp2
  refine bodyPost_ret (v := .agg #[.slice (some ⟨g1, 0, none⟩) xs.length c1, .int .i64 next]) (by simp [results, Tryz.results17, go_sem, *]) rfl ⟨g1, c1, rfl, ?_, ?_, ?_, hc, ?_⟩
  · rw [size_setCell, size_setCell, size_setCell, size_setCell]
    refine Sl.far (Sl.far (Sl.far (Sl.far Ho.out ?_ _) ?_ _) ?_ _) ?_ _
    all_goals (intro b e; have := (Hbl.out b e).1; dsimp only; omega)
  · exact (((Hf.out.setCell _ _).setCell _ _).setCell _ _).setCell _ _
  · intro b e
    rw [size_setCell, size_setCell, size_setCell, size_setCell]
    exact ⟨by have := (Hbl.out b e).1; omega, (Hbl.out b e).2⟩
  · exact bset (bset (bset (bset hb2 (by show _ ≤ w.heap.size + 1 + 1; omega) _) (by show _ ≤ w.heap.size + 1 + 1; omega) _) (by show _ ≤ w.heap.size + 1; omega) _) (by show _ ≤ w.heap.size + 1; omega) _

end Go.Proofs.YthmpmagajbmpaaaGreatDoor

/- A slice that came in, opened: whatever its element, each as so many cells; a slice of objects; a store. No Go text is walked here. -/
namespace Go.Proofs.YthmpmagajbmpaaaGreatDoor
open Go.ChangeShapes Go.WideShapes Go.ChangeAt Go.RowKit Go.Deep Go.Joins
set_option linter.unusedVariables false

theorem cellsLObj : Tryz.prog.cellsOf 132 = 3 := by kernel_rfl

theorem cellsLStore : Tryz.prog.cellsOf 45 = 2 := by kernel_rfl

theorem cellsInt : Tryz.prog.cellsOf 3 = 1 := by kernel_rfl

theorem cellsString : Tryz.prog.cellsOf 9 = 1 := by kernel_rfl

section

variable {H : Type} {enc : TypeId × Value → H} {w : World} {base : Nat} {spare : Nat → Bool} {held : Bool}

theorem open_obj' {P : Program} {t : TypeId} {f0 f1 f2 : Field} {n : Nat} {cs : List Value} {y : DataW H × List MemPlace} (ht : P.underlying t = some (.struct #[f0, f1, f2])) (hone : oneCellFields P #[f0, f1, f2] = true)
    (g0 : P.underlying f0.type = some .string) (g1 : P.underlying f1.type = some (.int .i64)) (g2 : P.underlying f2.type = some .string) (hl : cs.length = 3) (h : DataW.trod enc P w base spare held n t cs = some y) : ∃ o : GObj, cs = o.vals ∧ o.fit := by
  obtain ⟨y0, y1, y2, m, _, _, h0, h1, h2⟩ := trod_struct3 ht h
  obtain ⟨o0, k0⟩ := hone_of hone 0 f0 rfl
  obtain ⟨o1, k1⟩ := hone_of hone 1 f1 rfl
  obtain ⟨o2, k2⟩ := hone_of hone 2 f2 rfl
  match cs, hl with
  | [a, b, c], _ =>
    rw [o0, k0] at h0
    rw [o1, k1] at h1
    rw [o2, k2] at h2
    obtain ⟨s0, e0, _, l0⟩ := DataW.trod_string g0 h0
    obtain ⟨z1, e1, _, l1⟩ := DataW.trod_int g1 h1
    obtain ⟨s2, e2, _, l2⟩ := DataW.trod_string g2 h2
    simp at e0 e1 e2
    subst e0 e1 e2
    exact ⟨⟨s0, z1, s2⟩, rfl, ⟨l0, l2⟩, l1⟩

theorem open_store' {P : Program} {t e : TypeId} {f0 f1 g0 g1 g2 : Field} {W : World} {r : Reach} {b0 : Nat} {v : Value} {d : DataW H} {p : List MemPlace} (ht : P.underlying t = some (.struct #[f0, f1])) (hone : oneCellFields P #[f0, f1] = true) (hC : P.cellsOf t = 2)
    (hs : P.underlying f0.type = some (.slice e)) (hn : P.underlying f1.type = some (.int .i64)) (he : P.underlying e = some (.struct #[g0, g1, g2])) (hone2 : oneCellFields P #[g0, g1, g2] = true) (hce : P.cellsOf e = 3)
    (k0 : P.underlying g0.type = some .string) (k1 : P.underlying g1.type = some (.int .i64)) (k2 : P.underlying g2.type = some .string)
    (hv : Value.okWide P W r b0 t v) (h : DataW.Trod enc P W base spare held t v d p) :
    ∃ (A : Option Addr) (c : Nat) (xs : List GObj) (next : Int), v = .agg #[.slice A xs.length c, .int .i64 next] ∧ ObjsAt W W.heap.size A xs ∧ (∀ o ∈ xs, o.fit) ∧ xs.length ≤ maxLen ∧ (Lit.int .i64 next).wf = true := by
  obtain ⟨c0, c1, y0, y1, m, rfl, _, _, h0, h1⟩ := open_agg2 ht hone hC hv h
  obtain ⟨z1, e1, _, l1⟩ := DataW.trod_int hn h1
  obtain ⟨A, c, xs, rfl, hs, hq, hl⟩ := open_sl GObj.vals 3 GObj.fit hs hce (by omega) (fun n cs y hc hy => open_obj' he hone2 k0 k1 k2 hc hy) h0
  simp at e1
  subst e1
  exact ⟨A, c, xs, z1, rfl, hs, hq, hl, l1⟩

set_option maxRecDepth 100000 in
theorem open_store {W : World} {r : Reach} {b0 : Nat} {v : Value} {d : DataW H} {p : List MemPlace} (hv : Value.okWide Tryz.prog W r b0 45 v) (h : DataW.Trod enc Tryz.prog W base spare held 45 v d p) :
    ∃ (A : Option Addr) (c : Nat) (xs : List GObj) (next : Int), v = .agg #[.slice A xs.length c, .int .i64 next] ∧ ObjsAt W W.heap.size A xs ∧ (∀ o ∈ xs, o.fit) ∧ xs.length ≤ maxLen ∧ (Lit.int .i64 next).wf = true :=
  open_store' Tryz.underlying45 (by kernel_rfl) cellsLStore Tryz.underlying43 Tryz.underlying3 Tryz.underlying132 (by kernel_rfl) cellsLObj Tryz.underlying9 Tryz.underlying3 Tryz.underlying9 hv h

end

end Go.Proofs.YthmpmagajbmpaaaGreatDoor

/- The library's tables as the program's text lays them: from the condition of a row to what the contracts ask; a world that holds them. -/
namespace Go.Proofs.YthmpmagajbmpaaaGreatDoor
open Go.ChangeShapes Go.WideShapes Go.ChangeAt Go.RowKit
set_option linter.unusedVariables false

theorem own : ownKnob Tryz.prog.godebug = none := by kernel_rfl
theorem laidOut : laidOutB Tryz.prog = true := by kernel_rfl

theorem pow_data : (Rows.laid_internal_strconv_uint64pow10 : DataW Unit) = Lib.tabData .u64 Lib.pow10Tab := by rfl

theorem powG : Tryz.prog.globalNamed "internal/strconv.uint64pow10" = some 3 := by kernel_rfl
theorem powT : (Tryz.prog.globals[3]?).map (·.type) = some 242 := by kernel_rfl
theorem powC : Tryz.prog.cellsOf 242 = 20 := by kernel_rfl
theorem powE : Tryz.prog.cellsOf 222 = 1 := by kernel_rfl

theorem pow_of {W : World} {n1 n2 : String} {d1 d2 : DataW Unit} {rest : List (String × DataW Unit)} (h : laidMet Tryz.prog ((n1, d1) :: (n2, d2) :: ("internal/strconv.uint64pow10", Rows.laid_internal_strconv_uint64pow10) :: rest) W) : Pow W := by
  obtain ⟨ps, ⟨g1, t1, cs1, f1, p1, q1, _, _, _, _, ⟨g2, t2, cs2, f2, p2, q2, _, _, _, _, ⟨g', t', cs, fuel, p, q, hg', ht', hvar, hd, _, _⟩, _⟩, _⟩, _⟩ := h
  obtain rfl := Option.some.inj (powG.symm.trans hg')
  obtain rfl := Option.some.inj (powT.symm.trans ht')
  rw [pow_data] at hd
  unfold Pow Lib.TabIs
  rw [hvar, ← Lib.cells_of_tab Tryz.underlying242 Tryz.underlying222 powE powC hd]

/-- the cells that a table's datum is -/
def tabCells : DataW Unit → Array Value
  | .agg l => (l.map fun | .lit (.int k z) => Value.int k z | _ => .nilIface).toArray
  | _ => #[]

/-- what a table is laid as -/
def layTab (d : DataW Unit) : Obj → Obj
  | .cells _ t frozen => .cells (tabCells d) t frozen
  | o => o

/-- a world that holds the three tables -/
noncomputable def laidWorld (os : Os) : World :=
  { World.holding Tryz.prog os ⟨#[], #[], []⟩ with heap := (((World.holding Tryz.prog os ⟨#[], #[], []⟩).heap.modify 3 (layTab Rows.laid_internal_strconv_uint64pow10)).modify 6 (layTab Rows.laid_math_bits_deBruijn32tab)).modify 7 (layTab Rows.laid_math_bits_deBruijn64tab) }

end Go.Proofs.YthmpmagajbmpaaaGreatDoor

/- The library's tables and the program's paths of tiers as their texts lay them: from the condition of a row to what the contracts ask; a world that holds them; the variable reads behind the call as it read before. -/
namespace Go.Proofs.YthmpmagajbmpaaaGreatDoor
open Go.ChangeShapes Go.WideShapes Go.ChangeAt Go.RowKit
set_option linter.unusedVariables false

theorem gTab : Tryz.prog.globalNamed "loop.example/g00601/impl.tierPaths" = some 1 := by kernel_rfl
theorem gTabType : (Tryz.prog.globals[1]?).map (·.type) = some 217 := by kernel_rfl
theorem cellsTab : Tryz.prog.cellsOf 217 = 3 := by kernel_rfl
theorem cellsStr : Tryz.prog.cellsOf 9 = 1 := by kernel_rfl

theorem bytes_inj {s : ByteArray} {z : List UInt8} (h : s.data.toList = z) : s = ⟨z.toArray⟩ := by
  subst h; rfl

/-- an array of texts that reads as a list of texts holds them, cell for cell -/
theorem cells_of_texts {H : Type} {enc : TypeId × Value → H} {P : Program} {w : World} {base : Nat} {sp : Nat → Bool} {held : Bool} {fuel : Nat} {t e : TypeId} {n : Nat} {cs : List Value} {zs : List (List UInt8)} {p : List MemPlace}
    (ht : P.underlying t = some (.array n e)) (he : P.underlying e = some .string) (hce : P.cellsOf e = 1) (hct : P.cellsOf t = n)
    (h : DataW.trod enc P w base sp held fuel t cs = some (.agg (zs.map fun z => .lit (.string z)), p)) : cs = zs.map fun z => Value.string ⟨z.toArray⟩ := by
  cases fuel with
  | zero => simp [DataW.trod] at h
  | succ fuel =>
    simp only [DataW.trod, ht, hce, hct, Nat.mul_one] at h
    split at h
    · rename_i hl
      obtain ⟨xs, hm, hx⟩ := Option.map_eq_some_iff.1 h
      have hxs : xs.map (·.1) = zs.map fun z => (DataW.lit (.string z) : DataW H) := by
        have := congrArg Prod.fst hx
        simpa using this
      have hxl : xs.length = n := by simpa using Lib.mapM_length hm
      have hzl : zs.length = n := by
        have := congrArg List.length hxs
        simp at this
        omega
      apply List.ext_getElem?
      intro i
      by_cases hi : i < n
      · obtain ⟨b, hb, hf⟩ := Lib.mapM_at hm i i (by simp [hi])
        obtain ⟨s, hc, rfl, _⟩ := DataW.trod_string he hf
        have h1 : cs[i]? = some (.string s) := by
          have := congrArg (·[0]?) hc
          simpa [List.getElem?_take, List.getElem?_drop] using this
        have h2 : (xs.map (·.1))[i]? = some (DataW.lit (.string s.data.toList) : DataW H) := by simp [hb]
        rw [hxs] at h2
        simp only [List.getElem?_map, Option.map_eq_some_iff, DataW.lit.injEq, Lit.string.injEq] at h2
        obtain ⟨z', hz', e1⟩ := h2
        have e2 : s = ⟨z'.toArray⟩ := bytes_inj e1.symm
        simp [h1, hz', e2]
      · rw [List.getElem?_eq_none (by omega), List.getElem?_eq_none (by simp; omega)]
    · cases h

/-- the paths, byte by byte -/
def pl : List (List UInt8) := [[114, 97, 119, 47], [116, 49, 47], [116, 50, 47]]

theorem paths_cells {W : World} {cs : Array Value} (hvar : W.var? Tryz.prog "loop.example/g00601/impl.tierPaths" = some cs) (hcs : cs.toList = pl.map fun z => Value.string ⟨z.toArray⟩) : Paths W ∧ 1 < W.heap.size := by
  have hp : Paths W := by
    intro i hi
    have hv := World.var?_cell gTab hvar i
    rw [hv]
    have : cs[i]? = cs.toList[i]? := by simp
    rw [this, hcs]
    match i, hi with
    | 0, _ => rfl
    | 1, _ => rfl
    | 2, _ => rfl
  exact ⟨hp, World.block_lt_of_cell? W ⟨1, 0, none⟩ (hp 0 (by omega))⟩

theorem paths_of1 {W : World} (h : laidMet Tryz.prog [("loop.example/g00601/impl.tierPaths", Rows.laid_loop_example_g00601_impl_tierPaths)] W) : Paths W ∧ 1 < W.heap.size := by
  obtain ⟨ps, ⟨g', t', cs, fuel, p, q, hg', ht', hvar, hd, _, _⟩, _⟩ := h
  obtain rfl := Option.some.inj (gTab.symm.trans hg')
  obtain rfl := Option.some.inj (gTabType.symm.trans ht')
  have hd' : DataW.trod (fun _ => ()) Tryz.prog W 0 (fun _ => true) false fuel 217 cs.toList = some (.agg (pl.map fun z => .lit (.string z)), p) := hd
  exact paths_cells hvar (cells_of_texts Tryz.underlying217 Tryz.underlying9 cellsStr cellsTab hd')

theorem paths_of4 {W : World} {n1 n2 n3 : String} {d1 d2 d3 : DataW Unit} (h : laidMet Tryz.prog [(n1, d1), (n2, d2), (n3, d3), ("loop.example/g00601/impl.tierPaths", Rows.laid_loop_example_g00601_impl_tierPaths)] W) : Paths W ∧ 1 < W.heap.size := by
  obtain ⟨ps, ⟨g1, t1, cs1, f1, p1, q1, _, _, _, _, ⟨g2, t2, cs2, f2, p2, q2, _, _, _, _, ⟨g3, t3, cs3, f3, p3, q3, _, _, _, _, ⟨g', t', cs, fuel, p, q, hg', ht', hvar, hd, _, _⟩, _⟩, _⟩, _⟩, _⟩ := h
  obtain rfl := Option.some.inj (gTab.symm.trans hg')
  obtain rfl := Option.some.inj (gTabType.symm.trans ht')
  have hd' : DataW.trod (fun _ => ()) Tryz.prog W 0 (fun _ => true) false fuel 217 cs.toList = some (.agg (pl.map fun z => .lit (.string z)), p) := hd
  exact paths_cells hvar (cells_of_texts Tryz.underlying217 Tryz.underlying9 cellsStr cellsTab hd')

/-- the variable reads behind the call as it read ahead of it -/
theorem vars_back {H : Type} {enc : TypeId × Value → H} {W W' : World} {gs : List (DataW H)} {q : List MemPlace} (h : DataW.TrodVars enc Tryz.prog W (fun _ => true) ["loop.example/g00601/impl.tierPaths"] gs q) (hb : Below W.heap.size W W') (h0 : 1 < W.heap.size) (hlt : ∀ x ∈ q, x.block < W.heap.size) :
    DataW.TrodVars enc Tryz.prog W' (fun b => decide (b < W.heap.size)) ["loop.example/g00601/impl.tierPaths"] gs q := by
  obtain ⟨g, t, cs, fuel, d, p, rfl, h1, h2, h3, h4, rfl⟩ := trodVars_one h
  obtain rfl := Option.some.inj (gTab.symm.trans h1)
  obtain rfl := Option.some.inj (gTabType.symm.trans h2)
  have k : DataW.Trod enc Tryz.prog W 0 (fun _ => true) true 217 (.agg cs) d p := ⟨fuel, h4⟩
  obtain ⟨fuel', h4'⟩ := Below.trod laidOut (by kernel_rfl) (of_decide_eq_true (by kernel_rfl)) k hb (fun x hx => hlt x (List.mem_append_right _ hx))
  exact trodVars_mk1 h1 h2 (var?_below hb gTab h0 h3) h4'

/-- the cells that a table's datum is -/
def tabCellsK : DataW Unit → Array Value
  | .agg l => (l.map fun | .lit (.int k z) => Value.int k z | .lit (.string z) => Value.string ⟨z.toArray⟩ | _ => .nilIface).toArray
  | _ => #[]

/-- what a table is laid as -/
def layTabK (d : DataW Unit) : Obj → Obj
  | .cells _ t frozen => .cells (tabCellsK d) t frozen
  | o => o

/-- a world that holds the tables -/
noncomputable def laidWorldK (os : Os) : World :=
  { World.holding Tryz.prog os ⟨#[], #[], []⟩ with heap := ((((World.holding Tryz.prog os ⟨#[], #[], []⟩).heap.modify 3 (layTabK Rows.laid_internal_strconv_uint64pow10)).modify 6 (layTabK Rows.laid_math_bits_deBruijn32tab)).modify 7 (layTabK Rows.laid_math_bits_deBruijn64tab)).modify 1 (layTabK Rows.laid_loop_example_g00601_impl_tierPaths) }

end Go.Proofs.YthmpmagajbmpaaaGreatDoor

/- What a row ties, whichever of the tables it names: one of what is laid, by its name; the program's variables read behind the call as they read ahead of it; worlds that hold the tables. -/
namespace Go.Proofs.YthmpmagajbmpaaaGreatDoor
open Go.ChangeShapes Go.WideShapes Go.ChangeAt Go.RowKit
set_option linter.unusedVariables false

theorem laidVars_at {P : Program} {W : World} : ∀ {L : List (String × DataW Unit)} {ps : List MemPlace}, DataW.LaidVars P W L ps → ∀ {n : String} {d : DataW Unit}, (n, d) ∈ L → ∃ g t cs fuel p, P.globalNamed n = some g ∧ (P.globals[g]?).map (·.type) = some t ∧ W.var? P n = some cs ∧ DataW.trod (fun _ => ()) P W 0 (fun _ => true) false fuel t cs.toList = some (d, p)
  | [], _, _, _, _, hm => by cases hm
  | (n', d') :: r, ps, h, n, d, hm => by
    obtain ⟨g, t, cs, fuel, p, q, h1, h2, h3, h4, h5, _⟩ := h
    rcases List.mem_cons.1 hm with e | hm
    · cases e; exact ⟨g, t, cs, fuel, p, h1, h2, h3, h4⟩
    · exact laidVars_at h5 hm

theorem laid_at {P : Program} {W : World} {L : List (String × DataW Unit)} (h : laidMet P L W) {n : String} {d : DataW Unit} (hm : (n, d) ∈ L) : ∃ g t cs fuel p, P.globalNamed n = some g ∧ (P.globals[g]?).map (·.type) = some t ∧ W.var? P n = some cs ∧ DataW.trod (fun _ => ()) P W 0 (fun _ => true) false fuel t cs.toList = some (d, p) := by
  obtain ⟨ps, h, _⟩ := h
  exact laidVars_at h hm

theorem paths_in {W : World} {L : List (String × DataW Unit)} (h : laidMet Tryz.prog L W) (hm : ("loop.example/g00601/impl.tierPaths", Rows.laid_loop_example_g00601_impl_tierPaths) ∈ L) : Paths W ∧ 1 < W.heap.size := by
  obtain ⟨g', t', cs, fuel, p, hg', ht', hvar, hd⟩ := laid_at h hm
  obtain rfl := Option.some.inj (gTab.symm.trans hg')
  obtain rfl := Option.some.inj (gTabType.symm.trans ht')
  have hd' : DataW.trod (fun _ => ()) Tryz.prog W 0 (fun _ => true) false fuel 217 cs.toList = some (.agg (pl.map fun z => .lit (.string z)), p) := hd
  exact paths_cells hvar (cells_of_texts Tryz.underlying217 Tryz.underlying9 cellsStr cellsTab hd')

theorem pow_in {W : World} {L : List (String × DataW Unit)} (h : laidMet Tryz.prog L W) (hm : ("internal/strconv.uint64pow10", Rows.laid_internal_strconv_uint64pow10) ∈ L) : Pow W := by
  obtain ⟨g', t', cs, fuel, p, hg', ht', hvar, hd⟩ := laid_at h hm
  obtain rfl := Option.some.inj (powG.symm.trans hg')
  obtain rfl := Option.some.inj (powT.symm.trans ht')
  rw [pow_data] at hd
  unfold Pow Lib.TabIs
  rw [hvar, ← Lib.cells_of_tab Tryz.underlying242 Tryz.underlying222 powE powC hd]

theorem gWidA : Tryz.prog.globalNamed "loop.example/g00601/impl.tierWidths" = some 0 := by kernel_rfl
theorem gWidTypeA : (Tryz.prog.globals[0]?).map (·.type) = some 24 := by kernel_rfl
theorem cellsTriA : Tryz.prog.cellsOf 24 = 3 := by kernel_rfl
theorem cellsIntA : Tryz.prog.cellsOf 3 = 1 := by kernel_rfl
theorem widDataA : (Rows.laid_loop_example_g00601_impl_tierWidths : DataW Unit) = Lib.tabData .i64 [1, 5, 20] := rfl

theorem wid_in {W : World} {L : List (String × DataW Unit)} (h : laidMet Tryz.prog L W) (hm : ("loop.example/g00601/impl.tierWidths", Rows.laid_loop_example_g00601_impl_tierWidths) ∈ L) : Tab3 0 wid W ∧ 0 < W.heap.size := by
  obtain ⟨g', t', cs, fuel, p, hg', ht', hvar, hd⟩ := laid_at h hm
  obtain rfl := Option.some.inj (gWidA.symm.trans hg')
  obtain rfl := Option.some.inj (gWidTypeA.symm.trans ht')
  rw [widDataA] at hd
  have hcs := Lib.cells_of_tab Tryz.underlying24 Tryz.underlying3 cellsIntA cellsTriA hd
  have hp : Tab3 0 wid W := by
    intro i hi
    rw [World.var?_cell gWidA hvar i]
    have : cs[i]? = cs.toList[i]? := by simp
    rw [this, hcs, List.getElem?_map]
    rcases three hi with rfl | rfl | rfl <;> rfl
  exact ⟨hp, World.block_lt_of_cell? W ⟨0, 0, none⟩ (hp 0 (by omega))⟩

/-- the program's variables read behind the call as they read ahead of it -/
theorem vars_backs {H : Type} {enc : TypeId × Value → H} {W W' : World} (hb : Below W.heap.size W W') : ∀ (ns : List String) (gs : List (DataW H)) (q : List MemPlace), (∀ n ∈ ns, ∃ g t, Tryz.prog.globalNamed n = some g ∧ (Tryz.prog.globals[g]?).map (·.type) = some t ∧ (t = 217 ∨ t = 24) ∧ g < W.heap.size) →
    DataW.TrodVars enc Tryz.prog W (fun _ => true) ns gs q → (∀ x ∈ q, x.block < W.heap.size) → DataW.TrodVars enc Tryz.prog W' (fun b => decide (b < W.heap.size)) ns gs q
  | [], [], q, _, h, _ => h
  | n :: ns, d :: gs, q, hn, h, hlt => by
    obtain ⟨g, t, cs, fuel, p, q', h1, h2, h3, h4, h5, rfl⟩ := h
    obtain ⟨g', t', e1, e2, et, hz⟩ := hn n (by simp)
    obtain rfl := Option.some.inj (e1.symm.trans h1)
    obtain rfl := Option.some.inj (e2.symm.trans h2)
    have k : DataW.Trod enc Tryz.prog W 0 (fun _ => true) true t' (.agg cs) d p := ⟨fuel, h4⟩
    have k2 : DataW.Trod enc Tryz.prog W' 0 (fun b => decide (b < W.heap.size)) true t' (.agg cs) d p := by
      rcases et with rfl | rfl
      · exact Below.trod laidOut (by kernel_rfl) (of_decide_eq_true (by kernel_rfl)) k hb (fun x hx => hlt x (List.mem_append_left _ (List.mem_append_right _ hx)))
      · exact Below.trod laidOut (by kernel_rfl) (of_decide_eq_true (by kernel_rfl)) k hb (fun x hx => hlt x (List.mem_append_left _ (List.mem_append_right _ hx)))
    obtain ⟨fuel', h4'⟩ := k2
    exact ⟨g', t', cs, fuel', p, q', h1, h2, var?_below hb h1 hz h3, h4', vars_backs hb ns gs q' (fun m hm => hn m (List.mem_cons_of_mem _ hm)) h5 (fun x hx => hlt x (List.mem_append_right _ hx)), rfl⟩
  | [], _ :: _, _, _, h, _ => by cases h
  | _ :: _, [], _, _, h, _ => by cases h

/-- the cells that a table's datum is, of numbers, of texts or of structs of numbers -/
def tabCellsA : DataW Unit → Array Value
  | .agg l => (l.flatMap fun | .lit (.int k z) => [Value.int k z] | .lit (.string z) => [Value.string ⟨z.toArray⟩] | .agg m => (m.map fun | .lit (.int k z) => Value.int k z | _ => .nilIface) | _ => []).toArray
  | _ => #[]

def layTabA (d : DataW Unit) : Obj → Obj
  | .cells _ t frozen => .cells (tabCellsA d) t frozen
  | o => o

/-- a world that holds the tables of numbers, the paths and the widths -/
noncomputable def laidWorldD (os : Os) : World :=
  { World.holding Tryz.prog os ⟨#[], #[], []⟩ with heap := (((((World.holding Tryz.prog os ⟨#[], #[], []⟩).heap.modify 3 (layTabA Rows.laid_internal_strconv_uint64pow10)).modify 6 (layTabA Rows.laid_math_bits_deBruijn32tab)).modify 7 (layTabA Rows.laid_math_bits_deBruijn64tab)).modify 1 (layTabA Rows.laid_loop_example_g00601_impl_tierPaths)).modify 0 (layTabA Rows.laid_loop_example_g00601_impl_tierWidths) }

end Go.Proofs.YthmpmagajbmpaaaGreatDoor

/- What a record that is handed in is: six cells that are five numbers and a text. No Go text is walked here. -/
namespace Go.Proofs.YthmpmagajbmpaaaGreatDoor
open Go.ChangeShapes Go.WideShapes Go.ChangeAt Go.RowKit Go.Deep Go.Joins
set_option linter.unusedVariables false
set_option linter.unusedSimpArgs false

section

variable {H : Type} {enc : TypeId × Value → H} {base : Nat} {spare : Nat → Bool} {held : Bool}

theorem trod_fields {P : Program} {w : World} {t : TypeId} {fs : Array Field} {fuel : Nat} {cs : List Value} {x : DataW H × List MemPlace} (ht : P.underlying t = some (.struct fs)) (h : DataW.trod enc P w base spare held fuel t cs = some x) :
    cs.length = P.cellsOf t ∧ ∃ n, ∀ (i : Nat) (f : Field), fs[i]? = some f → ∃ y, DataW.trod enc P w base spare held n f.type ((cs.drop f.offset).take (P.cellsOf f.type)) = some y := by
  obtain ⟨xs, n, _, rfl, hl, hlen, hf⟩ := DataW.trod_struct ht h
  refine ⟨hl, n, fun i f hi => ?_⟩
  have h1 := hf i f hi
  have hil : i < xs.length := by
    rw [hlen]
    exact (Array.getElem?_eq_some_iff.1 hi).1
  rw [List.getElem?_eq_getElem hil] at h1
  exact ⟨_, h1⟩

theorem open_rec' {P : Program} {w : World} {t : TypeId} {f0 f1 f2 f3 f4 f5 : Field} {n : Nat} {cs : List Value} {y : DataW H × List MemPlace} (ht : P.underlying t = some (.struct #[f0, f1, f2, f3, f4, f5])) (hone : oneCellFields P #[f0, f1, f2, f3, f4, f5] = true)
    (g0 : P.underlying f0.type = some (.int .i64)) (g1 : P.underlying f1.type = some (.int .i64)) (g2 : P.underlying f2.type = some (.int .i64)) (g3 : P.underlying f3.type = some (.int .i64)) (g4 : P.underlying f4.type = some (.int .i64)) (g5 : P.underlying f5.type = some .string) (hl : cs.length = 6) (h : DataW.trod enc P w base spare held n t cs = some y) : ∃ o : GRec, cs = o.vals ∧ o.fit := by
  obtain ⟨_, m, hf⟩ := trod_fields ht h
  obtain ⟨y0, h0⟩ := hf 0 f0 rfl
  obtain ⟨o0, k0⟩ := hone_of hone 0 f0 rfl
  rw [o0, k0] at h0
  obtain ⟨y1, h1⟩ := hf 1 f1 rfl
  obtain ⟨o1, k1⟩ := hone_of hone 1 f1 rfl
  rw [o1, k1] at h1
  obtain ⟨y2, h2⟩ := hf 2 f2 rfl
  obtain ⟨o2, k2⟩ := hone_of hone 2 f2 rfl
  rw [o2, k2] at h2
  obtain ⟨y3, h3⟩ := hf 3 f3 rfl
  obtain ⟨o3, k3⟩ := hone_of hone 3 f3 rfl
  rw [o3, k3] at h3
  obtain ⟨y4, h4⟩ := hf 4 f4 rfl
  obtain ⟨o4, k4⟩ := hone_of hone 4 f4 rfl
  rw [o4, k4] at h4
  obtain ⟨y5, h5⟩ := hf 5 f5 rfl
  obtain ⟨o5, k5⟩ := hone_of hone 5 f5 rfl
  rw [o5, k5] at h5
  match cs, hl with
  | [x0, x1, x2, x3, x4, x5], _ =>
    obtain ⟨z0, e0, _, l0⟩ := DataW.trod_int g0 h0
    obtain ⟨z1, e1, _, l1⟩ := DataW.trod_int g1 h1
    obtain ⟨z2, e2, _, l2⟩ := DataW.trod_int g2 h2
    obtain ⟨z3, e3, _, l3⟩ := DataW.trod_int g3 h3
    obtain ⟨z4, e4, _, l4⟩ := DataW.trod_int g4 h4
    obtain ⟨z5, e5, _, l5⟩ := DataW.trod_string g5 h5
    simp at e0 e1 e2 e3 e4 e5
    subst e0 e1 e2 e3 e4 e5
    exact ⟨⟨z0, z1, z2, z3, z4, z5⟩, rfl, i64_of_wf l0, i64_of_wf l1, i64_of_wf l2, i64_of_wf l3, i64_of_wf l4, l5⟩

/-- a record that came in -/
theorem open_rec0 {P : Program} {t : TypeId} {f0 f1 f2 f3 f4 f5 : Field} {W : World} {r : Reach} {b0 : Nat} {v : Value} {d : DataW H} {p : List MemPlace} (ht : P.underlying t = some (.struct #[f0, f1, f2, f3, f4, f5])) (hone : oneCellFields P #[f0, f1, f2, f3, f4, f5] = true) (hC : P.cellsOf t = 6)
    (g0 : P.underlying f0.type = some (.int .i64)) (g1 : P.underlying f1.type = some (.int .i64)) (g2 : P.underlying f2.type = some (.int .i64)) (g3 : P.underlying f3.type = some (.int .i64)) (g4 : P.underlying f4.type = some (.int .i64)) (g5 : P.underlying f5.type = some .string)
    (hv : Value.okWide P W r b0 t v) (h : DataW.Trod enc P W base spare held t v d p) : ∃ a : GRec, v = .agg #[.int .i64 a.kind, .int .i64 a.tok, .int .i64 a.tier, .int .i64 a.beg, .int .i64 a.fin, .string a.key] ∧ a.fit := by
  obtain ⟨cs, rfl, hsz⟩ := okWide_struct ht hv
  obtain ⟨fuel, hf⟩ := h
  obtain ⟨l⟩ := cs
  simp only [Value.cells] at hf
  obtain ⟨a, e, hfit⟩ := open_rec' ht hone g0 g1 g2 g3 g4 g5 (by have := (trod_fields ht hf).1; rw [hC] at this; exact this) hf
  subst e
  exact ⟨a, rfl, hfit⟩

theorem cellsLRec : Tryz.prog.cellsOf 28 = 6 := by kernel_rfl

set_option maxRecDepth 100000 in
theorem open_lrec {W : World} {r : Reach} {b0 : Nat} {v : Value} {d : DataW H} {p : List MemPlace} (hv : Value.okWide Tryz.prog W r b0 28 v) (h : DataW.Trod enc Tryz.prog W base spare held 28 v d p) :
    ∃ a : GRec, v = .agg #[.int .i64 a.kind, .int .i64 a.tok, .int .i64 a.tier, .int .i64 a.beg, .int .i64 a.fin, .string a.key] ∧ a.fit :=
  open_rec0 Tryz.underlying28 (by kernel_rfl) cellsLRec Tryz.underlying3 Tryz.underlying3 Tryz.underlying3 Tryz.underlying3 Tryz.underlying3 Tryz.underlying9 hv h

end

end Go.Proofs.YthmpmagajbmpaaaGreatDoor
