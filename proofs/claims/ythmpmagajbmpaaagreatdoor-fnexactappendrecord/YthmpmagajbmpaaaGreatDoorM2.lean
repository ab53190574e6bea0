/-
  Several texts as one: contracts that the law leans on; each part says what it proves and its conditions.
-/
import Derived.Test.YthmpmagajbmpaaaGreatDoorConv
import Derived.Maps.Own
import Derived.Maps.OwnOps
import Derived.Maps.OwnSet
import Derived.WalkLawsBesides
import Derived.Test.YthmpmagajbmpaaaGreatDoorHeld
import Derived.Deep.RegionLaw
import Derived.StillTailTactics
import Derived.RegionTactic
import Derived.Sort.Walk0
import Derived.Test.YthmpmagajbmpaaaGreatDoorIter
import Derived.Sort.KeysCollected
import Derived.Maps.Range
import Derived.Maps.AppendAt
import Derived.Deep.AppendLies
import Derived.Laws.AppendOwnNone
import Derived.Deep.RegionHeld3

/- Contracts of the laws' copying helpers: to (a copy of a store in new memory). -/
namespace Go.Proofs.YthmpmagajbmpaaaGreatDoor
open Go.ChangeShapes Go.WideShapes Go.ChangeAt Go.RowKit
set_option linter.unusedVariables false

theorem info40 : (Tryz.prog.info? 92).map (fun i => (i.zero, i.size, i.bytes)) = some (some (.agg #[.string ⟨#[]⟩, .int .i64 0, .string ⟨#[]⟩]), 3, 40) := by kernel_rfl

theorem toObject_any (o : GObj) (w : World) : Calls Tryz.prog 87 #[.agg #[.string o.key, .int .i64 o.ver, .string o.data]] w fun e w' => e = .returned (.agg #[.string o.key, .int .i64 o.ver, .string o.data]) ∧ Below w.heap.size w w' := by
  go_enter Tryz.func87, Tryz.ntmps87
  go_wp2
  refine bodyPost_ret (v := .agg #[.string o.key, .int .i64 o.ver, .string o.data]) (by simp [results, Tryz.results87, go_sem]) rfl ⟨rfl, ?_⟩
  exact bal (bal (bal (Below.refl _ _) _) _) _

/-- an object of zeros -/
def zObj : GObj := ⟨⟨#[]⟩, 0, ⟨#[]⟩⟩

/-- a new block of so many of them -/
def zeroObjs (n : Nat) : Obj := .cells (madeCells #[.string ⟨#[]⟩, .int .i64 0, .string ⟨#[]⟩] (n * 3)) 92

theorem make_objs (n : Nat) (hn : n ≤ 1048576) (W : World) : (Instr.makeSlice 49 (.int .i64 (n : Int)) (.int .i64 (n : Int))).run Tryz.prog W = .ok (.slice (some ⟨W.heap.size, 0, none⟩) n n) (W.alloc (zeroObjs n)) :=
  run_make_n (P := Tryz.prog) 49 92 _ 3 40 info40 Tryz.underlying49 n n (Nat.le_refl _) (by omega) (by omega) W

theorem zeroObjs_sl (n : Nat) (w : World) : ObjsAt (w.alloc (zeroObjs n)) (w.heap.size + 1) (some ⟨w.heap.size, 0, none⟩) (List.replicate n zObj) :=
  made_sl GObj.vals zObj 3 n 92 w _ rfl rfl

theorem zeroObjs_free (n : Nat) (w : World) : Free (w.alloc (zeroObjs n)) (some ⟨w.heap.size, 0, none⟩) := free_alloc _ _ _ _

/-- a slice of objects is answered, in new memory of its own -/
def NewObjs (xs : List GObj) (w : World) (e : Ending) (w' : World) : Prop :=
  ∃ (A : Option Addr) (c : Nat), e = .returned (.slice A xs.length c) ∧ ObjsAt w' w'.heap.size A xs ∧ Free w' A ∧ (∀ b, blk A = some b → w.heap.size ≤ b ∧ b < w'.heap.size) ∧ xs.length ≤ c ∧ Below w.heap.size w w'

theorem ObjsAt.store {w w1 : World} {B g k : Nat} {ys : List GObj} (h : ObjsAt w B (some ⟨g, 0, none⟩) ys) (hk : k < ys.length) (ho : ∀ i, w1.cell? ⟨g, i, none⟩ = w.cell? ⟨g, i, none⟩) (o : GObj) :
    ObjsAt (((w1.setCell ⟨g, k * 3, none⟩ (.string o.key)).setCell ⟨g, k * 3 + 1, none⟩ (.int .i64 o.ver)).setCell ⟨g, k * 3 + 2, none⟩ (.string o.data)) B (some ⟨g, 0, none⟩) (ys.set k o) := by
  obtain ⟨b, off, e, hgB, q0, q1, q2⟩ := ObjsAt.obj h hk
  injection e with e
  injection e with e1 e2
  subst e1 e2
  rw [← ho] at q0 q1 q2
  rw [Nat.zero_add] at q0 q1 q2
  refine Sl.set h vals_length hk o ?_ ?_
  · intro i v hv
    rw [Nat.zero_add]
    match i, hv with
    | 0, hv =>
      simp [GObj.vals] at hv; subst hv
      rw [cset_ne _ _ _ _ _ (by omega), cset_ne _ _ _ _ _ (by omega)]; exact cset_eq _ _ _ _ q0
    | 1, hv =>
      simp [GObj.vals] at hv; subst hv
      rw [cset_ne _ _ _ _ _ (by omega)]; exact cset_eq _ _ _ _ ((cset_ne _ _ _ _ _ (by omega)).trans q1)
    | 2, hv =>
      simp [GObj.vals] at hv; subst hv
      exact cset_eq _ _ _ _ ((cset_ne _ _ _ _ _ (by omega)).trans ((cset_ne _ _ _ _ _ (by omega)).trans q2))
    | i + 3, hv => simp [GObj.vals] at hv
  · intro i hi
    rw [cset_ne _ _ _ _ _ (by omega), cset_ne _ _ _ _ _ (by omega), cset_ne _ _ _ _ _ (by omega)]
    exact ho i

set_option maxRecDepth 100000 in
theorem toObjectS_any (A : Option Addr) (c : Nat) (xs : List GObj) (B : Nat) (w : World) (h : ObjsAt w B A xs) (hB : B ≤ w.heap.size) (hl : xs.length ≤ 1048576) :
    Calls Tryz.prog 49 #[.slice A xs.length c] w (NewObjs xs w) := by
  have H := Lib.hid h; clear h
  have hmk := make_objs xs.length hl
  go_enter Tryz.func49, Tryz.ntmps49
  go_wp2_with fail
  have hsl := zeroObjs_sl xs.length w
  have hfr := zeroObjs_free xs.length w
  have hbw : Below w.heap.size w (w.alloc (zeroObjs xs.length)) := bal (Below.refl _ _) _
  have hsz : w.heap.size < (w.alloc (zeroObjs xs.length)).heap.size := by simp
  generalize w.alloc (zeroObjs xs.length) = w0 at hsl hfr hbw hsz ⊢
  clear hmk
  have Hsl := Lib.hid hsl; clear hsl
  have Hfr := Lib.hid hfr; clear hfr
  go_loopw [4] (fun i wr => ∃ j : Nat, j ≤ xs.length ∧ i = .int .i64 j ∧ Hid (ObjsAt wr (w.heap.size + 1) (some ⟨w.heap.size, 0, none⟩) (xs.take j ++ (List.replicate xs.length zObj).drop j)) ∧ Hid (Free wr (some ⟨w.heap.size, 0, none⟩)) ∧ w.heap.size < wr.heap.size ∧ Below w.heap.size w wr) (fun i _ => xs.length - (intOf i).toNat)
  case atStart => exact ⟨0, by omega, rfl, Lib.hid (by simpa using Hsl.out), Hfr, hsz, hbw⟩
  case round =>
    clear Hsl Hfr hbw hsz
    obtain ⟨j, hj, rfl, Hr, Hf, hs, hb⟩ := hrel
    by_cases hlt : j < xs.length
    · obtain ⟨b, off, rfl, hbB, p0, p1, p2⟩ := ObjsAt.obj (Sl.below H.out hb hB) hlt
      have hjl : j < (xs.take j ++ (List.replicate xs.length zObj).drop j).length := by simp; omega
      obtain ⟨g, o, e, hgB, q0, q1, q2⟩ := ObjsAt.obj Hr.out hjl
      injection e with e
      injection e with e1 e2
      subst e1 e2
      obtain ⟨v0, q0⟩ : ∃ v, wr.cell? ⟨w.heap.size, 0 + j * 3, none⟩ = some v := ⟨_, q0⟩
      obtain ⟨v1, q1⟩ : ∃ v, wr.cell? ⟨w.heap.size, 0 + j * 3 + 1, none⟩ = some v := ⟨_, q1⟩
      obtain ⟨v2, q2⟩ : ∃ v, wr.cell? ⟨w.heap.size, 0 + j * 3 + 2, none⟩ = some v := ⟨_, q2⟩
      have fz : ∀ i, wr.frozen? ⟨w.heap.size, i, none⟩ = false := Hf.out _ rfl
      rw [Nat.zero_add] at q0 q1 q2
      have Q0 := Lib.hid q0; clear q0
      have Q1 := Lib.hid q1; clear q1
      have Q2 := Lib.hid q2; clear q2
      have Fz := Lib.hid fz; clear fz
      go_wp2_with fail
      refine (toObject_any xs[j] wr).mono ?_
      rintro e w1 ⟨rfl, hb1⟩
      have c0 : w1.cell? ⟨w.heap.size, j * 3, none⟩ = some v0 := (hb1.cell hs).trans Q0.out
      have c1 : w1.cell? ⟨w.heap.size, j * 3 + 1, none⟩ = some v1 := (hb1.cell hs).trans Q1.out
      have c2 : w1.cell? ⟨w.heap.size, j * 3 + 2, none⟩ = some v2 := (hb1.cell hs).trans Q2.out
      have f0 : w1.frozen? ⟨w.heap.size, j * 3, none⟩ = false := (hb1.frozen hs).trans (Fz.out _)
      have f1 : w1.frozen? ⟨w.heap.size, j * 3 + 1, none⟩ = false := (hb1.frozen hs).trans (Fz.out _)
      have f2 : w1.frozen? ⟨w.heap.size, j * 3 + 2, none⟩ = false := (hb1.frozen hs).trans (Fz.out _)
      have hn := ObjsAt.store (w1 := w1) Hr.out hjl (fun i => hb1.cell hs) xs[j]
      rw [take_set xs _ j hlt (by simpa using hlt)] at hn
      have Hn := Lib.hid hn; clear hn
      have hfn : Free (((w1.setCell ⟨w.heap.size, j * 3, none⟩ (.string xs[j].key)).setCell ⟨w.heap.size, j * 3 + 1, none⟩ (.int .i64 xs[j].ver)).setCell ⟨w.heap.size, j * 3 + 2, none⟩ (.string xs[j].data)) (some ⟨w.heap.size, 0, none⟩) := fun b e i => by
        simp [blk] at e; subst e
        rw [frozen_setCell, frozen_setCell, frozen_setCell]; exact (hb1.frozen hs).trans (Fz.out i)
      have Hfn := Lib.hid hfn; clear hfn
      have hsn : w.heap.size < w1.heap.size := by have := hb1.size; omega
      have hbn : Below w.heap.size w (((w1.setCell ⟨w.heap.size, j * 3, none⟩ (.string xs[j].key)).setCell ⟨w.heap.size, j * 3 + 1, none⟩ (.int .i64 xs[j].ver)).setCell ⟨w.heap.size, j * 3 + 2, none⟩ (.string xs[j].data)) :=
        bset (bset (bset (bnext hb hb1) (Nat.le_refl _) _) (Nat.le_refl _) _) (Nat.le_refl _) _
      have Hbn := Lib.hid hbn; clear hbn
      go_wp2
      go_roundw
      case rel => exact ⟨j + 1, by omega, by go_num, Hn, Hfn, by simpa [World.setCell] using hsn, Hbn.out⟩
      case measure => simp [intOf]; omega
    · obtain rfl : j = xs.length := by omega
      have hn : ObjsAt wr (w.heap.size + 1) (some ⟨w.heap.size, 0, none⟩) xs := by simpa using Hr.out
      have Hn := Lib.hid hn; clear hn
      go_wp2
      go_ret
      exact ⟨_, _, rfl, Sl.more Hn.out hs, Hf.out, fun b e => by simp [blk] at e; subst e; exact ⟨Nat.le_refl _, hs⟩, Nat.le_refl _, hb⟩

/-- a store is answered, in new memory of its own -/
def NewStoreV (xs : List GObj) (next : Int) (w : World) (e : Ending) (w' : World) : Prop :=
  ∃ (A : Option Addr) (c : Nat), e = .returned (.agg #[.slice A xs.length c, .int .i64 next]) ∧ ObjsAt w' w'.heap.size A xs ∧ Free w' A ∧ (∀ b, blk A = some b → w.heap.size ≤ b ∧ b < w'.heap.size) ∧ xs.length ≤ c ∧ Below w.heap.size w w'

theorem toStore_any (A : Option Addr) (c : Nat) (next : Int) (xs : List GObj) (B : Nat) (w : World) (h : ObjsAt w B A xs) (hB : B ≤ w.heap.size) (hl : xs.length ≤ 1048576) :
    Calls Tryz.prog 17 #[.agg #[.slice A xs.length c, .int .i64 next]] w (NewStoreV xs next w) := by
  have H := Lib.hid h; clear h
  go_enter Tryz.func17, Tryz.ntmps17
  go_wp2_with fail
  refine (toObjectS_any A c xs B _ (Sl.below H.out (bal (bal (bal (Below.refl _ _) _) _) _) hB) (by simp; omega) hl).mono ?_
  rintro e w1 ⟨A1, c1, rfl, ho, hf, hbl, hc, hb1⟩
  have hsz : w.heap.size + 3 ≤ w1.heap.size := by have := hb1.size; simp at this; omega
  have b0 : w1.cell? ⟨w.heap.size, 1, none⟩ = some (.int .i64 next) := by rw [hb1.cell (by simp <;> omega)]; simp [go_sem]
  have b1 : w1.cell? ⟨w.heap.size + 1, 0, none⟩ = some (.slice none 0 0) := by rw [hb1.cell (by simp <;> omega)]; simp [go_sem]
  have b2 : w1.cell? ⟨w.heap.size + 1, 1, none⟩ = some (.int .i64 0) := by rw [hb1.cell (by simp <;> omega)]; simp [go_sem]
  have b3 : w1.cell? ⟨w.heap.size + 1 + 1, 0, none⟩ = some (.slice none 0 0) := by rw [hb1.cell (by simp)]; simp [go_sem]
  have b4 : w1.cell? ⟨w.heap.size + 1 + 1, 1, none⟩ = some (.int .i64 0) := by rw [hb1.cell (by simp)]; simp [go_sem]
  have f1 : w1.frozen? ⟨w.heap.size + 1, 0, none⟩ = false := by rw [hb1.frozen (by simp <;> omega)]; simp [go_sem]
  have f2 : w1.frozen? ⟨w.heap.size + 1, 1, none⟩ = false := by rw [hb1.frozen (by simp <;> omega)]; simp [go_sem]
  have f3 : w1.frozen? ⟨w.heap.size + 1 + 1, 0, none⟩ = false := by rw [hb1.frozen (by simp)]; simp [go_sem]
  have f4 : w1.frozen? ⟨w.heap.size + 1 + 1, 1, none⟩ = false := by rw [hb1.frozen (by simp)]; simp [go_sem]
  have hb2 : Below w.heap.size w w1 := bnext (bal (bal (bal (Below.refl _ _) _) _) _) hb1
  have hbl2 : ∀ b, blk A1 = some b → w.heap.size + 3 ≤ b ∧ b < w1.heap.size := fun b e => ⟨by have := (hbl b e).1; simp at this; omega, (hbl b e).2⟩
  have Hbl := Lib.hid hbl2
  have Ho := Lib.hid ho
  have Hf := Lib.hid hf
  clear hbl hbl2 ho hf hb1
  go_wp2
  refine bodyPost_ret (v := .agg #[.slice A1 xs.length c1, .int .i64 next]) (by simp [results, Tryz.results17, go_sem, *]) rfl ⟨A1, c1, rfl, ?_, ?_, ?_, hc, ?_⟩
  · rw [size_setCell, size_setCell, size_setCell, size_setCell]
    refine Sl.far (Sl.far (Sl.far (Sl.far Ho.out ?_ _) ?_ _) ?_ _) ?_ _
    all_goals (intro b e; have := (Hbl.out b e).1; dsimp only; omega)
  · exact (((Hf.out.setCell _ _).setCell _ _).setCell _ _).setCell _ _
  · intro b e
    rw [size_setCell, size_setCell, size_setCell, size_setCell]
    exact ⟨by have := (Hbl.out b e).1; omega, (Hbl.out b e).2⟩
  · exact bset (bset (bset (bset hb2 (by show _ ≤ w.heap.size + 1 + 1; omega) _) (by show _ ≤ w.heap.size + 1 + 1; omega) _) (by show _ ≤ w.heap.size + 1; omega) _) (by show _ ≤ w.heap.size + 1; omega) _

end Go.Proofs.YthmpmagajbmpaaaGreatDoor

/- A set of numbers kept as a Go map from int to bool that the call made: what it holds, looked up, written; and what a store is (the predicate), with the object's own check. -/
namespace Go.Proofs.YthmpmagajbmpaaaGreatDoor
open Go.ChangeShapes Go.WideShapes Go.ChangeAt Go.RowKit Go.Maps
set_option linter.unusedVariables false

theorem intKeyed : Keyed Tryz.prog 3 := int_keyed Tryz.underlying3

theorem zeroBool (w : World) : (zeroValue 4).run Tryz.prog w = .ok (.bool false) w := by kernel_rfl

/-- block b is a map from int to bool that says true just of the numbers vs -/
def IntSet (w : World) (b : Nat) (vs : List Int) : Prop :=
  ∃ D : DataW Unit, w.ownsMap Tryz.prog 3 (plainElem Tryz.prog 4) b vs.length D ∧ ∀ v, D.atKey (.int .i64 v) (.lit (.bool false)) = .lit (.bool (vs.contains v))

theorem run_makeMap_some (t k e : TypeId) (n : Int) (ht : Tryz.prog.underlying t = some (.map k e)) (w : World) :
    (Instr.makeMap t (some (.int .i64 n))).run Tryz.prog w = .ok (.map (some w.heap.size)) (w.alloc (.map #[] 0)) := by
  simp [Instr.makeMap, run_underlying ht]; rfl

theorem IntSet.made (w : World) : IntSet (w.alloc (.map #[] 0)) w.heap.size [] := ⟨_, World.ownsMap_made _ _ _ _, fun v => rfl⟩

theorem plainElem_bool_inv {P : Program} {e : TypeId} (he : P.underlying e = some .bool) {v : Value} {z : DataW Unit × List MemPlace} (h : plainElem P e v = some z) : ∃ x, v = .bool x ∧ z = (.lit (.bool x), []) := by
  unfold plainElem at h
  rw [he] at h
  cases v <;> simp at h
  exact ⟨_, rfl, h.symm⟩

theorem IntSet.look {w : World} {b : Nat} {vs : List Int} (h : IntSet w b vs) {v : Int} (hv : (Lit.int .i64 v).wf = true) :
    (Instr.lookup 138 (.map (some b)) (.int .i64 v) false).run Tryz.prog w = .ok (.bool (vs.contains v)) w := by
  obtain ⟨D, hown, hat⟩ := h
  obtain ⟨u, ps, hrun, hu⟩ := hown.lookup intKeyed Tryz.underlying138 (zeroBool w) (plainElem_bool Tryz.underlying4 false) (keyOf_int_mk Tryz.underlying3 hv)
  obtain ⟨x, rfl, hx⟩ := plainElem_bool_inv Tryz.underlying4 hu
  rw [hat v] at hx
  simp only [Prod.mk.injEq, DataW.lit.injEq, Lit.bool.injEq] at hx
  rw [hrun, hx.1]

theorem IntSet.lt {w : World} {b : Nat} {vs : List Int} (h : IntSet w b vs) : b < w.heap.size := by obtain ⟨D, hown, _⟩ := h; exact hown.lt

theorem IntSet.grown {w w' : World} {b : Nat} {vs : List Int} (h : IntSet w b vs) {row : Option Nat} (hg : w.grownBy w' row) (hr : some b ≠ row) : IntSet w' b vs := by
  obtain ⟨D, hown, hat⟩ := h
  exact ⟨D, hown.kept hg hr, hat⟩

theorem IntSet.below {w w' : World} {b : Nat} {vs : List Int} (h : IntSet w b vs) (hb : Below w.heap.size w w') : IntSet w' b vs := h.grown (grown_of_below hb none) (by simp)

theorem IntSet.after {w w' : World} {b : Nat} {vs : List Int} {v : Int} {D : DataW Unit} {n : Nat} (hn : n = vs.length + 1) (hat : ∀ u, D.atKey (.int .i64 u) (.lit (.bool false)) = .lit (.bool (vs.contains u))) (hm : IsMap D)
    (h : w'.ownsMap Tryz.prog 3 (plainElem Tryz.prog 4) b n (D.put (.int .i64 v) (.lit (.bool true)))) : IntSet w' b (v :: vs) := by
  refine ⟨_, by subst hn; exact h, fun u => ?_⟩
  by_cases e : u = v
  · subst e
    rw [atKey_put_same hm (by trivial)]
    simp
  · rw [atKey_put_other (by intro h; injection h with _ h; exact e h), hat u]
    simp [e]

/-- the order of texts -/
def bl (a b : ByteArray) : Bool := Op.bytesLess a.toList b.toList

/-- an object of a store whose Next is next -/
def ObjOK (next : Int) (o : GObj) : Prop := KeyP o.key ∧ 1 ≤ o.ver ∧ o.ver < next ∧ o.data.size ≤ 600

/-- the first k objects are right -/
def PreOK (xs : List GObj) (next : Int) (k : Nat) : Prop :=
  (∀ i (h : i < xs.length), i < k → ObjOK next xs[i]) ∧ (∀ i (h : i + 1 < xs.length), i + 1 < k → bl xs[i].key xs[i + 1].key = true) ∧ (∀ i j (h : j < xs.length) (hij : i < j), j < k → xs[i].ver ≠ xs[j].ver)

/-- a store -/
def StoreP (xs : List GObj) (next : Int) : Prop := 1 ≤ next ∧ next ≤ 1000000000 ∧ xs.length ≤ 300 ∧ PreOK xs next xs.length

/-- objects as they can lie in memory: texts and numbers fit -/
def GObj.fit (o : GObj) : Prop := o.fits ∧ (Lit.int .i64 o.ver).wf = true

theorem objRight_any (o : GObj) (next : Int) (w : World) (ho : o.fits) :
    Calls Tryz.prog 88 #[.agg #[.string o.key, .int .i64 o.ver, .string o.data], .int .i64 next] w (IsBB (ObjOK next o) w) := by
  obtain ⟨ok, od⟩ := ho
  unfold maxLen at od
  go_enter Tryz.func88, Tryz.ntmps88
  go_wp2_with fail
  refine (key_any o.key _ ok).mono ?_
  rintro e w1 ⟨b, hb, rfl, rfl⟩
  have Hb := Lib.hid hb; clear hb
  cases b
  · have hn : ¬ ObjOK next o := fun h => by have := Hb.out.2 h.1; cases this
    have Hn := Lib.hid hn; clear hn Hb
    go_wp2
    go_ret
    exact ⟨false, by simp [Hn.out], rfl, bal (Below.refl _ _) _⟩
  · have hk : KeyP o.key := Hb.out.1 rfl
    have Hk := Lib.hid hk; clear hk Hb
    by_cases c1 : 1 ≤ o.ver
    · by_cases c2 : o.ver < next
      · by_cases c3 : o.data.size ≤ 600
        · have hn : ObjOK next o := ⟨Hk.out, c1, c2, c3⟩
          have Hn := Lib.hid hn; clear hn
          go_wp2
          go_ret
          exact ⟨true, by simp [Hn.out], by simp; omega, bal (Below.refl _ _) _⟩
        · have hn : ¬ ObjOK next o := fun h => c3 h.2.2.2
          have Hn := Lib.hid hn; clear hn
          have d3 : decide ((o.data.size : Int) ≤ 600) = false := by simp; omega
          go_wp2
          go_ret
          exact ⟨false, by simp [Hn.out], rfl, bal (Below.refl _ _) _⟩
      · have hn : ¬ ObjOK next o := fun h => c2 h.2.2.1
        have Hn := Lib.hid hn; clear hn
        have d2 : decide (o.ver < next) = false := by simpa using c2
        go_wp2
        go_ret
        exact ⟨false, by simp [Hn.out], rfl, bal (Below.refl _ _) _⟩
    · have hn : ¬ ObjOK next o := fun h => c1 h.2.1
      have Hn := Lib.hid hn; clear hn
      have d1 : decide (1 ≤ o.ver) = false := by simpa using c1
      go_wp2
      go_ret
      exact ⟨false, by simp [Hn.out], rfl, bal (Below.refl _ _) _⟩

end Go.Proofs.YthmpmagajbmpaaaGreatDoor

/- Contract of (Store).right, and of StoreOK: true just of a store. -/
namespace Go.Proofs.YthmpmagajbmpaaaGreatDoor
open Go.ChangeShapes Go.WideShapes Go.ChangeAt Go.RowKit Go.Maps
set_option linter.unusedVariables false

theorem wf_ver {o : GObj} (h : o.fit) : (Lit.int .i64 o.ver).wf = true := h.2

def vers (xs : List GObj) (k : Nat) : List Int := ((xs.take k).map (·.ver)).reverse

theorem vers_has (xs : List GObj) (k : Nat) (v : Int) (hk : k ≤ xs.length) : (vers xs k).contains v = true ↔ ∃ i, ∃ h : i < xs.length, i < k ∧ xs[i].ver = v := by
  simp only [vers, List.contains_iff_mem, List.mem_reverse, List.mem_map]
  constructor
  · rintro ⟨o, ho, rfl⟩
    obtain ⟨i, hi, rfl⟩ := List.mem_iff_getElem.1 ho
    simp at hi
    exact ⟨i, by omega, by omega, by simp⟩
  · rintro ⟨i, h, hik, rfl⟩
    exact ⟨xs[i], List.mem_iff_getElem.2 ⟨i, by simp; omega, by simp⟩, rfl⟩

theorem vers_succ (xs : List GObj) (k : Nat) (hk : k < xs.length) : vers xs (k + 1) = xs[k].ver :: vers xs k := by
  unfold vers
  rw [List.take_succ_eq_append_getElem hk, List.map_append, List.reverse_append]
  rfl

theorem PreOK.succ {xs : List GObj} {next : Int} {k : Nat} (h : PreOK xs next k) (hk : k < xs.length) (ho : ObjOK next xs[k]) (hv : (vers xs k).contains xs[k].ver = false) (hb : ∀ h0 : 0 < k, bl xs[k - 1].key xs[k].key = true) : PreOK xs next (k + 1) := by
  refine ⟨fun i hi hik => ?_, fun i hi hik => ?_, fun i j hj hij hjk => ?_⟩
  · by_cases e : i = k
    · subst e; exact ho
    · exact h.1 i hi (by omega)
  · by_cases e : i + 1 = k
    · subst e; exact hb (by omega)
    · exact h.2.1 i hi (by omega)
  · by_cases e : j = k
    · subst e
      intro he
      have := (vers_has xs j xs[j].ver (by omega)).2 ⟨i, by omega, hij, he⟩
      rw [hv] at this
      cases this
    · exact h.2.2 i j hj hij (by omega)

theorem not_store_obj {xs : List GObj} {next : Int} {k : Nat} (hk : k < xs.length) (h : ¬ ObjOK next xs[k]) : ¬ StoreP xs next := fun hs => h (hs.2.2.2.1 k hk hk)

theorem not_store_ver {xs : List GObj} {next : Int} {k : Nat} (hk : k < xs.length) (h : (vers xs k).contains xs[k].ver = true) : ¬ StoreP xs next := fun hs => by
  obtain ⟨i, hi, hik, he⟩ := (vers_has xs k _ (by omega)).1 h
  exact hs.2.2.2.2.2 i k hk hik hk he

theorem not_store_key {xs : List GObj} {next : Int} {k : Nat} (hk : k < xs.length) (h0 : 0 < k) (h : bl xs[k - 1].key xs[k].key = false) : ¬ StoreP xs next := fun hs => by
  have := hs.2.2.2.2.1 (k - 1) (by omega) (by omega)
  have e : k - 1 + 1 = k := by omega
  simp only [e] at this
  rw [h] at this
  cases this

set_option maxRecDepth 100000 in
theorem right_in (A : Option Addr) (c : Nat) (next : Int) (xs : List GObj) (B : Nat) (w : World) (h : ObjsAt w B A xs) (hB : B ≤ w.heap.size) (hf : ∀ o ∈ xs, o.fit) (n1 : 1 ≤ next) (n2 : next ≤ 1000000000) (hl : xs.length ≤ 300) :
    Calls Tryz.prog 50 #[.agg #[.slice A xs.length c, .int .i64 next]] w (IsBB (StoreP xs next) w) := by
  have H := Lib.hid h; clear h
  have Hf := Lib.hid hf; clear hf
  have d1 : decide (next < 1) = false := by simp; omega
  have d2 : decide (1000000000 < next) = false := by simp; omega
  have d3 : decide (300 < (xs.length : Int)) = false := by simp; omega
  have hmk := run_makeMap_some 138 3 4 (xs.length : Int) Tryz.underlying138
  go_enter Tryz.func50, Tryz.ntmps50
  go_wp2_with fail
  obtain ⟨W, hW⟩ : ∃ W, W = (w.alloc (.cells #[.slice A xs.length c, .int .i64 next] 51)).alloc (.map #[] 0) := ⟨_, rfl⟩
  have t0 : Two W w.heap.size (.slice A xs.length c) (.int .i64 next) := by rw [hW]; exact (Two.new _ _ _ _).alloc (by simp) _
  have m0 : IntSet W (w.heap.size + 1) (vers xs 0) := by
    rw [hW]; have := IntSet.made (w.alloc (.cells #[.slice A xs.length c, .int .i64 next] 51)); simpa [vers] using this
  have b0 : Below w.heap.size w W := by rw [hW]; exact bal (bal (Below.refl _ _) _) _
  rw [← hW]
  clear hW hmk
  have T0 := Lib.hid t0; clear t0
  have M0 := Lib.hid m0; clear m0
  go_loopw [27] (fun i wr => ∃ k : Nat, k ≤ xs.length ∧ i = .int .i64 k ∧ Hid (PreOK xs next k) ∧ Hid (Two wr w.heap.size (.slice A xs.length c) (.int .i64 next)) ∧ Hid (IntSet wr (w.heap.size + 1) (vers xs k)) ∧ Below w.heap.size w wr) (fun i _ => xs.length - (intOf i).toNat)
  case atStart => exact ⟨0, by omega, rfl, Lib.hid ⟨fun i _ h => by omega, fun i _ h => by omega, fun i j _ _ h => by omega⟩, T0, M0, b0⟩
  case round =>
    clear T0 M0 b0
    obtain ⟨k, hk, rfl, Hp, HT, HM, hb⟩ := hrel
    by_cases hlt : k < xs.length
    · obtain ⟨b, off, rfl, hbB, p0, p1, p2⟩ := ObjsAt.obj (Sl.below H.out hb hB) hlt
      have hfit : xs[k].fit := Hf.out _ (List.getElem_mem hlt)
      have Hfit := Lib.hid hfit; clear hfit
      obtain ⟨t10, t11⟩ := HT.out
      have hms : w.heap.size + 1 < wr.heap.size := HM.out.lt
      have hws : w.heap.size < wr.heap.size := by omega
      go_wp2_with fail
      obtain ⟨Wc, hWc⟩ : ∃ Wc, Wc = wr.alloc (.cells #[.string xs[k].key, .int .i64 xs[k].ver, .string xs[k].data] 92) := ⟨_, rfl⟩
      have o0 : Wc.cell? ⟨wr.heap.size, 0, none⟩ = some (.string xs[k].key) := by rw [hWc]; simp
      have o1 : Wc.cell? ⟨wr.heap.size, 1, none⟩ = some (.int .i64 xs[k].ver) := by rw [hWc]; simp
      have bc : Below wr.heap.size wr Wc := by rw [hWc]; exact bal (Below.refl _ _) _
      have sc : wr.heap.size < Wc.heap.size := by rw [hWc]; simp
      rw [← hWc]
      clear hWc p0 p1 p2 t10 t11
      have O0 := Lib.hid o0; clear o0
      have O1 := Lib.hid o1; clear o1
      refine (objRight_any xs[k] next Wc Hfit.out.1).mono ?_
      rintro e w2 ⟨bb, hbb, rfl, hb2⟩
      have b2 : Below wr.heap.size wr w2 := bnext bc hb2
      have bw : Below w.heap.size w w2 := bnext hb b2
      have z2 : wr.heap.size < w2.heap.size := by have := hb2.size; omega
      have q0 : w2.cell? ⟨wr.heap.size, 0, none⟩ = some (.string xs[k].key) := (hb2.cell sc).trans O0.out
      have q1 : w2.cell? ⟨wr.heap.size, 1, none⟩ = some (.int .i64 xs[k].ver) := (hb2.cell sc).trans O1.out
      obtain ⟨t10, t11⟩ := HT.out.below b2 hws
      have M2 := Lib.hid (HM.out.below b2)
      have S2 := Lib.hid (Sl.below H.out bw hB)
      have Hbb := Lib.hid hbb; clear hbb
      clear bc hb2 O0 O1 b2 HT HM
      cases bb
      · have hn : ¬ StoreP xs next := not_store_obj hlt (fun h => by have := Hbb.out.2 h; cases this)
        have Hn := Lib.hid hn; clear hn
        go_wp2
        go_ret
        exact ⟨false, by simp [Hn.out], rfl, bw⟩
      · have hok : ObjOK next xs[k] := Hbb.out.1 rfl
        have Hok := Lib.hid hok; clear hok Hbb
        have hlk := M2.out.look (wf_ver Hfit.out)
        cases hct : (vers xs k).contains xs[k].ver
        · have Hct := Lib.hid hct
          rw [hct] at hlk
          clear hct
          by_cases h0 : 0 < k
          · obtain ⟨j, rfl⟩ : ∃ j, k = j + 1 := ⟨k - 1, by omega⟩
            have hk1 : j < xs.length := by omega
            obtain ⟨b', off', e, _, r0, _, _⟩ := ObjsAt.obj S2.out hk1
            injection e with e
            injection e with e1 e2
            subst e1 e2
            clear h0
            have wr1 : IntKind.i64.wrap ((j : Int) + 1 - 1) = (j : Int) := by rw [IntKind.wrap_i64]; omega
            have j0 : (0 : Int) ≤ (j : Int) := by omega
            have j1 : (j : Int) < (xs.length : Int) := by omega
            cases hbl : bl xs[j].key xs[j + 1].key
            · have hn : ¬ StoreP xs next := not_store_key (k := j + 1) hlt (by omega) hbl
              have Hn := Lib.hid hn; clear hn
              unfold bl at hbl
              go_wp2_with fail
              go_quiet (fail)
              go_wp2
              go_ret
              exact ⟨false, by simp [Hn.out], rfl, bdrewN bw _⟩
            · have Hbl := Lib.hid hbl
              unfold bl at hbl
              go_wp2_with fail
              go_quiet (fail)
              clear wr1 j0 j1 hbl r0
              obtain ⟨D, hown, hat⟩ := M2.out
              have Hat := Lib.hid hat; clear hat
              have hm := hown.isMap
              have Hm := Lib.hid hm; clear hm
              have Hown := Lib.hid hown; clear hown
              have hsz : (vers xs (j + 1)).length < maxLen := by simp [vers, maxLen] <;> omega
              have Hsz := Lib.hid hsz; clear hsz
              go_wp2_with (at_mapUpdate; refine wpList_mapUpdate_own _ rfl _ _ _ 138 rfl 3 4 intKeyed Tryz.underlying138 _ (w.heap.size + 1) _ D rfl (by exact Hown.out) Hsz.out _ _ _ rfl rfl (keyOf_int_mk Tryz.underlying3 (wf_ver Hfit.out)) _ [] (plainElem_bool Tryz.underlying4 true) ?_; intro w3 hown3 hg3)
              have hp : PreOK xs next (j + 1 + 1) := Hp.out.succ hlt Hok.out Hct.out (fun _ => Hbl.out)
              have Hp2 := Lib.hid hp; clear hp
              have hi : IntSet w3 (w.heap.size + 1) (vers xs (j + 1 + 1)) := by rw [vers_succ xs _ hlt]; exact IntSet.after (w := w2) rfl Hat.out Hm.out hown3
              have Hi := Lib.hid hi; clear hi hown3
              have hg3' : w2.grownBy w3 (some (w.heap.size + 1)) := ⟨hg3.os, hg3.tape, hg3.output, hg3.size, hg3.block⟩
              have ht3 : Two w3 w.heap.size (.slice (some ⟨b, off, none⟩) xs.length c) (.int .i64 next) := Two.grown ⟨t10, t11⟩ hg3' (by omega) (fun g e => by injection e with e; omega)
              have Ht3 := Lib.hid ht3; clear ht3
              have hb3 : Below w.heap.size w w3 := bw.trans (below_of_grown hg3' (by omega) (fun g e => by injection e with e; omega))
              go_roundw
              case rel => exact ⟨j + 1 + 1, by omega, by go_num, Hp2, Ht3, Hi, hb3⟩
              case measure => simp [intOf]; omega
          · obtain rfl : k = 0 := by omega
            clear h0
            have d0 : decide (0 < ((0 : Nat) : Int)) = false := by simp
            go_wp2_with fail
            go_quiet (fail)
            obtain ⟨D, hown, hat⟩ := M2.out
            have Hat := Lib.hid hat; clear hat
            have hm := hown.isMap
            have Hm := Lib.hid hm; clear hm
            have Hown := Lib.hid hown; clear hown
            have hsz : (vers xs (0)).length < maxLen := by simp [vers, maxLen] <;> omega
            have Hsz := Lib.hid hsz; clear hsz
            go_wp2_with (at_mapUpdate; refine wpList_mapUpdate_own _ rfl _ _ _ 138 rfl 3 4 intKeyed Tryz.underlying138 _ (w.heap.size + 1) _ D rfl (by exact Hown.out) Hsz.out _ _ _ rfl rfl (keyOf_int_mk Tryz.underlying3 (wf_ver Hfit.out)) _ [] (plainElem_bool Tryz.underlying4 true) ?_; intro w3 hown3 hg3)
            have hp : PreOK xs next (0 + 1) := Hp.out.succ hlt Hok.out Hct.out (fun h => absurd h (by omega))
            have Hp2 := Lib.hid hp; clear hp
            have hi : IntSet w3 (w.heap.size + 1) (vers xs (0 + 1)) := by rw [vers_succ xs _ hlt]; exact IntSet.after (w := w2) rfl Hat.out Hm.out hown3
            have Hi := Lib.hid hi; clear hi hown3
            have hg3' : w2.grownBy w3 (some (w.heap.size + 1)) := ⟨hg3.os, hg3.tape, hg3.output, hg3.size, hg3.block⟩
            have ht3 : Two w3 w.heap.size (.slice (some ⟨b, off, none⟩) xs.length c) (.int .i64 next) := Two.grown ⟨t10, t11⟩ hg3' (by omega) (fun g e => by injection e with e; omega)
            have Ht3 := Lib.hid ht3; clear ht3
            have hb3 : Below w.heap.size w w3 := bw.trans (below_of_grown hg3' (by omega) (fun g e => by injection e with e; omega))
            go_roundw
            case rel => exact ⟨0 + 1, by omega, by go_num, Hp2, Ht3, Hi, hb3⟩
            case measure => simp [intOf]; omega
        · have hn : ¬ StoreP xs next := not_store_ver hlt hct
          have Hn := Lib.hid hn; clear hn
          rw [hct] at hlk
          clear hct
          go_wp2
          go_ret
          exact ⟨false, by simp [Hn.out], rfl, bw⟩
    · have hyes : StoreP xs next := ⟨n1, n2, hl, by obtain rfl : k = xs.length := by omega
                                                    exact Hp.out⟩
      have Hy := Lib.hid hyes; clear hyes
      go_wp2
      go_ret
      exact ⟨true, by simp [Hy.out], rfl, hb⟩

theorem right_any (A : Option Addr) (c : Nat) (next : Int) (xs : List GObj) (B : Nat) (w : World) (h : ObjsAt w B A xs) (hB : B ≤ w.heap.size) (hf : ∀ o ∈ xs, o.fit) (hl : xs.length ≤ 1048576) :
    Calls Tryz.prog 50 #[.agg #[.slice A xs.length c, .int .i64 next]] w (IsBB (StoreP xs next) w) := by
  by_cases n1 : 1 ≤ next
  · by_cases n2 : next ≤ 1000000000
    · by_cases n3 : xs.length ≤ 300
      · exact right_in A c next xs B w h hB hf n1 n2 n3
      · have hn : ¬ StoreP xs next := fun h => n3 h.2.2.1
        have Hn := Lib.hid hn; clear hn h hf
        have d1 : decide (next < 1) = false := by simp; omega
        have d2 : decide (1000000000 < next) = false := by simp; omega
        have d3 : decide (300 < (xs.length : Int)) = true := by simp; omega
        go_enter Tryz.func50, Tryz.ntmps50
        go_wp2
        go_ret
        exact ⟨false, by simp [Hn.out], rfl, bal (Below.refl _ _) _⟩
    · have hn : ¬ StoreP xs next := fun h => n2 h.2.1
      have Hn := Lib.hid hn; clear hn h hf
      have d1 : decide (next < 1) = false := by simp; omega
      have d2 : decide (1000000000 < next) = true := by simp; omega
      go_enter Tryz.func50, Tryz.ntmps50
      go_wp2
      go_ret
      exact ⟨false, by simp [Hn.out], rfl, bal (Below.refl _ _) _⟩
  · have hn : ¬ StoreP xs next := fun h => n1 h.1
    have Hn := Lib.hid hn; clear hn h hf
    have d1 : decide (next < 1) = true := by simp; omega
    go_enter Tryz.func50, Tryz.ntmps50
    go_wp2
    go_ret
    exact ⟨false, by simp [Hn.out], rfl, bal (Below.refl _ _) _⟩

end Go.Proofs.YthmpmagajbmpaaaGreatDoor

/- Contract of the model's StoreOK: true just of a store. -/
namespace Go.Proofs.YthmpmagajbmpaaaGreatDoor
open Go.ChangeShapes Go.WideShapes Go.ChangeAt Go.RowKit Go.Maps
set_option linter.unusedVariables false

theorem specKey_yes (s : ByteArray) (w : World) (hs : s.size ≤ maxLen) (h : KeyP s) : Calls Tryz.prog 82 #[.string s] w fun e w' => e = .returned (.bool true) ∧ w' = w :=
  (specKey_any s w hs).mono fun e w' ⟨b, hb, he, hw⟩ => ⟨by rw [he, hb.2 h], hw.symm⟩

theorem specKey_no (s : ByteArray) (w : World) (hs : s.size ≤ maxLen) (h : ¬ KeyP s) : Calls Tryz.prog 82 #[.string s] w fun e w' => e = .returned (.bool false) ∧ w' = w :=
  (specKey_any s w hs).mono fun e w' ⟨b, hb, he, hw⟩ => ⟨by rw [he]; cases b; (· rfl); (· exact absurd (hb.1 rfl) h), hw.symm⟩

theorem l01In_yes (n a b : Int) (w : World) (h : a ≤ n ∧ n ≤ b) : Calls Tryz.prog 56 #[.int .i64 n, .int .i64 a, .int .i64 b] w fun e w' => e = .returned (.bool true) ∧ w' = w :=
  (l01In_any n a b w).mono fun e w' ⟨he, hw⟩ => ⟨by rw [he]; simp [h], hw.symm⟩

theorem l01In_no (n a b : Int) (w : World) (h : ¬ (a ≤ n ∧ n ≤ b)) : Calls Tryz.prog 56 #[.int .i64 n, .int .i64 a, .int .i64 b] w fun e w' => e = .returned (.bool false) ∧ w' = w :=
  (l01In_any n a b w).mono fun e w' ⟨he, hw⟩ => ⟨by rw [he]; simp [h], hw.symm⟩

/-- one more than the greatest version that the model lets by: next itself, but at the least of all numbers, where one less is the greatest -/
def nxw (next : Int) : Int := wrap64 (next - 1) + 1

theorem nxw_eq {next : Int} (h1 : 1 ≤ next) (h2 : next ≤ 1000000000) : nxw next = next := by unfold nxw wrap64; omega

theorem not_store_of {xs : List GObj} {next : Int} (h : ¬ StoreP xs (nxw next)) : ¬ StoreP xs next := fun hs => h (by rw [nxw_eq hs.1 hs.2.1]; exact hs)

set_option maxRecDepth 100000 in
set_option maxHeartbeats 1000000 in
theorem specStoreOK_any (A : Option Addr) (c : Nat) (next : Int) (xs : List GObj) (B : Nat) (w : World) (h : ObjsAt w B A xs) (hB : B ≤ w.heap.size) (hf : ∀ o ∈ xs, o.fit) (hl : xs.length ≤ 1048576) :
    Calls Tryz.prog 47 #[.agg #[.slice A xs.length c, .int .i64 next]] w (IsBB (StoreP xs next) w) := by
  have H := Lib.hid h; clear h
  have Hf := Lib.hid hf; clear hf
  go_enter Tryz.func47, Tryz.ntmps47
  go_wp2_with fail
  obtain ⟨W, hW⟩ : ∃ W, W = w.alloc (.cells #[.slice A xs.length c, .int .i64 next] 51) := ⟨_, rfl⟩
  have t0 : Two W w.heap.size (.slice A xs.length c) (.int .i64 next) := by rw [hW]; exact Two.new _ _ _ _
  have b0 : Below w.heap.size w W := by rw [hW]; exact bal (Below.refl _ _) _
  have s0 : w.heap.size < W.heap.size := by rw [hW]; simp
  rw [← hW]
  clear hW
  have T0 := Lib.hid t0; clear t0
  go_loopw [3] (fun i wr => ∃ k : Nat, k ≤ xs.length ∧ i = .int .i64 k ∧ Hid (PreOK xs (nxw next) k) ∧ Hid (Two wr w.heap.size (.slice A xs.length c) (.int .i64 next)) ∧ w.heap.size < wr.heap.size ∧ Below w.heap.size w wr) (fun i _ => xs.length - (intOf i).toNat)
  case atStart => exact ⟨0, by omega, rfl, Lib.hid ⟨fun i _ h => by omega, fun i _ h => by omega, fun i j _ _ h => by omega⟩, T0, s0, b0⟩
  case round =>
    clear T0 b0 s0
    obtain ⟨k, hk, rfl, Hp, HT, hws, hb⟩ := hrel
    obtain ⟨t10, t11⟩ := HT.out
    by_cases hlt : k < xs.length
    · obtain ⟨b, off, rfl, hbB, p0, p1, p2⟩ := ObjsAt.obj (Sl.below H.out hb hB) hlt
      have hfit : xs[k].fit := Hf.out _ (List.getElem_mem hlt)
      have Hfit := Lib.hid hfit; clear hfit
      go_wp2_with fail
      obtain ⟨Wc, hWc⟩ : ∃ Wc, Wc = wr.alloc (.cells #[.string xs[k].key, .int .i64 xs[k].ver, .string xs[k].data] 92) := ⟨_, rfl⟩
      have o0 : Wc.cell? ⟨wr.heap.size, 0, none⟩ = some (.string xs[k].key) := by rw [hWc]; simp
      have o1 : Wc.cell? ⟨wr.heap.size, 1, none⟩ = some (.int .i64 xs[k].ver) := by rw [hWc]; simp
      have o2 : Wc.cell? ⟨wr.heap.size, 2, none⟩ = some (.string xs[k].data) := by rw [hWc]; simp
      have bc : Below wr.heap.size wr Wc := by rw [hWc]; exact bal (Below.refl _ _) _
      have sc : wr.heap.size < Wc.heap.size := by rw [hWc]; simp
      rw [← hWc]
      clear hWc p0 p1 p2 t10 t11
      obtain ⟨t10, t11⟩ := HT.out.below bc hws
      have bw : Below w.heap.size w Wc := bnext hb bc
      have HT2 := Lib.hid (HT.out.below bc hws)
      have S2 := Lib.hid (Sl.below H.out bw hB)
      have sw : w.heap.size < Wc.heap.size := by omega
      clear HT bc
      by_cases c1 : KeyP xs[k].key
      · by_cases c2 : 1 ≤ xs[k].ver ∧ xs[k].ver ≤ wrap64 (next - 1)
        · have C1 := Lib.hid c1; clear c1
          have C2 := Lib.hid c2; clear c2
          by_cases c3 : xs[k].data.size ≤ 600
          · have d3 : decide (600 < (xs[k].data.size : Int)) = false := by simp; omega
            by_cases h0 : 0 < k
            · obtain ⟨j, rfl⟩ : ∃ j, k = j + 1 := ⟨k - 1, by omega⟩
              have hk1 : j < xs.length := by omega
              obtain ⟨b', off', e, _, r0, _, _⟩ := ObjsAt.obj S2.out hk1
              injection e with e
              injection e with e1 e2
              subst e1 e2
              clear h0
              have wr1 : IntKind.i64.wrap ((j : Int) + 1 - 1) = (j : Int) := by rw [IntKind.wrap_i64]; omega
              have j0 : (0 : Int) ≤ (j : Int) := by omega
              have j1 : (j : Int) < (xs.length : Int) := by omega
              cases hbl : bl xs[j].key xs[j + 1].key
              · have hn : ¬ StoreP xs next := not_store_key (k := j + 1) hlt (by omega) hbl
                have Hn := Lib.hid hn; clear hn
                unfold bl at hbl
                go_quiet (first | (go_at_call 82; exact Calls.quiet_of_same (specKey_yes _ _ Hfit.out.1.1 C1.out)) | (go_at_call 56; exact Calls.quiet_of_same (l01In_yes _ _ _ _ C2.out)))
                go_wp2
                go_ret
                exact ⟨false, by simp [Hn.out], rfl, bdrewN bw _⟩
              · have Hbl := Lib.hid hbl
                unfold bl at hbl
                go_quiet (first | (go_at_call 82; exact Calls.quiet_of_same (specKey_yes _ _ Hfit.out.1.1 C1.out)) | (go_at_call 56; exact Calls.quiet_of_same (l01In_yes _ _ _ _ C2.out)))
                go_wp2_with fail
                have bq : Below Wc.heap.size Wc (Wc.drewN nq) := bdrewN (Below.refl _ _) _
                generalize Wc.drewN nq = Wd at bq ⊢
                have qo1 : Wd.cell? ⟨wr.heap.size, 1, none⟩ = some (.int .i64 xs[j + 1].ver) := (bq.cell sc).trans o1
                have bwd : Below w.heap.size w Wd := bnext bw bq
                have HTd := Lib.hid (HT2.out.below bq sw)
                have Sd := Lib.hid (Sl.below S2.out bq (by have := hb.size; omega))
                have scd : wr.heap.size < Wd.heap.size := by have := bq.size; omega
                have swd : w.heap.size < Wd.heap.size := by have := bq.size; omega
                clear o0 o1 o2 t10 t11 bq HT2 S2 wr1 j0 j1 hbl r0
                have Qo1 := Lib.hid qo1; clear qo1
                obtain ⟨wo, hwo⟩ : ∃ wo : World, wo = wr := ⟨_, rfl⟩
                rw [← hwo] at Qo1 scd
                have Hwo := Lib.hid hwo; clear hwo
                go_loopw [5] (fun i wi => ∃ jj : Nat, jj ≤ j + 1 ∧ i = .int .i64 jj ∧ Hid (∀ i (h : i < xs.length), i < jj → xs[i].ver ≠ xs[j + 1].ver) ∧ Below Wd.heap.size Wd wi) (fun i _ => j + 1 - (intOf i).toNat)
                case atStart => exact ⟨0, by omega, rfl, Lib.hid (fun i _ h => by omega), Below.refl _ _⟩
                case round =>
                  obtain ⟨j2, hj2, rfl, Hv, hbi⟩ := hrel
                  have bwi := bnext bwd hbi
                  obtain ⟨y10, y11⟩ := HTd.out.below hbi (by omega)
                  by_cases hjk : j2 < j + 1
                  · have hj3 : j2 < xs.length := by omega
                    obtain ⟨b', off', e, _, _, r1, _⟩ := ObjsAt.obj (Sl.below Sd.out hbi (by omega)) hj3
                    injection e with e
                    injection e with e1 e2
                    subst e1 e2
                    have q1 := (hbi.cell scd).trans Qo1.out
                    rw [Hwo.out] at q1
                    by_cases hve : xs[j2].ver = xs[j + 1].ver
                    · have hn : ¬ StoreP xs next := fun hs => hs.2.2.2.2.2 j2 (j + 1) hlt hjk hlt hve
                      have Hn := Lib.hid hn; clear hn
                      have e1 : (xs[j2].ver == xs[j + 1].ver) = true := by simpa using hve
                      clear hve
                      go_wp2_with fail
                      go_quiet (fail)
                      go_wp2
                      go_ret
                      exact ⟨false, by simp [Hn.out], rfl, bdrewN bwi _⟩
                    · have hn : ∀ i (h : i < xs.length), i < j2 + 1 → xs[i].ver ≠ xs[j + 1].ver := fun i h hi => by
                        by_cases ei : i = j2
                        · subst ei; exact hve
                        · exact Hv.out i h (by omega)
                      have Hn := Lib.hid hn; clear hn
                      have e1 : (xs[j2].ver == xs[j + 1].ver) = false := by simpa using hve
                      clear hve
                      go_wp2_with fail
                      go_quiet (fail)
                      go_wp2
                      go_roundw
                      case rel => exact ⟨j2 + 1, by omega, by go_num, Hn, bdrewN hbi _⟩
                      case measure => simp [intOf]; omega
                  · have hp : PreOK xs (nxw next) (j + 1 + 1) := Hp.out.succ hlt ⟨C1.out, C2.out.1, by unfold nxw; have := C2.out.2; omega, c3⟩ (by
                        cases hc : (vers xs (j + 1)).contains xs[j + 1].ver
                        · rfl
                        · obtain ⟨i, hi, hik, he⟩ := (vers_has xs _ _ (by omega)).1 hc
                          exact absurd he (Hv.out i hi (by omega))) (fun _ => Hbl.out)
                    have Hp2 := Lib.hid hp; clear hp
                    have Ht2 := Lib.hid (HTd.out.below hbi (by omega))
                    have hwi : w.heap.size < _ := Nat.lt_of_lt_of_le (show w.heap.size < Wd.heap.size by omega) hbi.size
                    go_wp2
                    go_roundw
                    case rel => exact ⟨j + 1 + 1, by omega, by go_num, Hp2, Ht2, hwi, bwi⟩
                    case measure => simp [intOf]; omega
            · obtain rfl : k = 0 := by omega
              clear h0
              have d0 : decide (0 < ((0 : Nat) : Int)) = false := by simp
              go_quiet (first | (go_at_call 82; exact Calls.quiet_of_same (specKey_yes _ _ Hfit.out.1.1 C1.out)) | (go_at_call 56; exact Calls.quiet_of_same (l01In_yes _ _ _ _ C2.out)))
              go_wp2_with fail
              have bq : Below Wc.heap.size Wc (Wc.drewN nq) := bdrewN (Below.refl _ _) _
              generalize Wc.drewN nq = Wd at bq ⊢
              have qo1 : Wd.cell? ⟨wr.heap.size, 1, none⟩ = some (.int .i64 xs[0].ver) := (bq.cell sc).trans o1
              have bwd : Below w.heap.size w Wd := bnext bw bq
              have HTd := Lib.hid (HT2.out.below bq sw)
              have Sd := Lib.hid (Sl.below S2.out bq (by have := hb.size; omega))
              have scd : wr.heap.size < Wd.heap.size := by have := bq.size; omega
              have swd : w.heap.size < Wd.heap.size := by have := bq.size; omega
              clear o0 o1 o2 t10 t11 bq HT2 S2 d0
              have Qo1 := Lib.hid qo1; clear qo1
              obtain ⟨wo, hwo⟩ : ∃ wo : World, wo = wr := ⟨_, rfl⟩
              rw [← hwo] at Qo1 scd
              have Hwo := Lib.hid hwo; clear hwo
              go_loopw [5] (fun i wi => ∃ j : Nat, j ≤ 0 ∧ i = .int .i64 j ∧ Hid (∀ i (h : i < xs.length), i < j → xs[i].ver ≠ xs[0].ver) ∧ Below Wd.heap.size Wd wi) (fun i _ => 0 - (intOf i).toNat)
              case atStart => exact ⟨0, by omega, rfl, Lib.hid (fun i _ h => by omega), Below.refl _ _⟩
              case round =>
                obtain ⟨j2, hj2, rfl, Hv, hbi⟩ := hrel
                have bwi := bnext bwd hbi
                obtain ⟨y10, y11⟩ := HTd.out.below hbi (by omega)
                by_cases hjk : j2 < 0
                · exact absurd hjk (by omega)
                · have hp : PreOK xs (nxw next) (0 + 1) := Hp.out.succ hlt ⟨C1.out, C2.out.1, by unfold nxw; have := C2.out.2; omega, c3⟩ (by
                      cases hc : (vers xs (0)).contains xs[0].ver
                      · rfl
                      · obtain ⟨i, hi, hik, he⟩ := (vers_has xs _ _ (by omega)).1 hc
                        exact absurd he (Hv.out i hi (by omega))) (fun h => absurd h (by omega))
                  have Hp2 := Lib.hid hp; clear hp
                  have Ht2 := Lib.hid (HTd.out.below hbi (by omega))
                  have hwi : w.heap.size < _ := Nat.lt_of_lt_of_le (show w.heap.size < Wd.heap.size by omega) hbi.size
                  go_wp2
                  go_roundw
                  case rel => exact ⟨0 + 1, by omega, by go_num, Hp2, Ht2, hwi, bwi⟩
                  case measure => simp [intOf]; omega
          · have hn : ¬ StoreP xs next := not_store_of (not_store_obj hlt (fun h => c3 h.2.2.2))
            have Hn := Lib.hid hn; clear hn
            have d3 : decide (600 < (xs[k].data.size : Int)) = true := by simp; omega
            go_quiet (first | (go_at_call 82; exact Calls.quiet_of_same (specKey_yes _ _ Hfit.out.1.1 C1.out)) | (go_at_call 56; exact Calls.quiet_of_same (l01In_yes _ _ _ _ C2.out)))
            go_wp2
            go_ret
            exact ⟨false, by simp [Hn.out], rfl, bdrewN bw _⟩
        · have hn : ¬ StoreP xs next := not_store_of (not_store_obj hlt (fun h => c2 ⟨h.2.1, by have := h.2.2.1; unfold nxw at this; omega⟩))
          have Hn := Lib.hid hn; clear hn
          have C1 := Lib.hid c1; clear c1
          have C2 := Lib.hid c2; clear c2
          go_quiet (first | (go_at_call 82; exact Calls.quiet_of_same (specKey_yes _ _ Hfit.out.1.1 C1.out)) | (go_at_call 56; exact Calls.quiet_of_same (l01In_no _ _ _ _ C2.out)))
          go_wp2
          go_ret
          exact ⟨false, by simp [Hn.out], rfl, bdrewN bw _⟩
      · have hn : ¬ StoreP xs next := not_store_of (not_store_obj hlt (fun h => c1 h.1))
        have Hn := Lib.hid hn; clear hn
        have C1 := Lib.hid c1; clear c1
        go_quiet ((go_at_call 82; exact Calls.quiet_of_same (specKey_no _ _ Hfit.out.1.1 C1.out)))
        go_wp2
        go_ret
        exact ⟨false, by simp [Hn.out], rfl, bdrewN bw _⟩
    · obtain rfl : k = xs.length := by omega
      by_cases n3 : xs.length ≤ 300
      · have d3 : decide ((xs.length : Int) ≤ 300) = true := by simp; omega
        go_wp2_with fail
        refine (l01In_any _ _ _ _).mono ?_
        rintro e w1 ⟨rfl, rfl⟩
        have hiff : decide (1 ≤ next ∧ next ≤ 1000000000) = true ↔ StoreP xs next := by
          simp only [decide_eq_true_eq]
          exact ⟨fun ⟨a, b⟩ => ⟨a, b, n3, by have := Hp.out; rwa [nxw_eq a b] at this⟩, fun h => ⟨h.1, h.2.1⟩⟩
        have Hi := Lib.hid hiff; clear hiff
        generalize decide (1 ≤ next ∧ next ≤ 1000000000) = bb at *
        go_wp2
        go_ret
        exact ⟨bb, Hi.out, rfl, hb⟩
      · have d3 : decide ((xs.length : Int) ≤ 300) = false := by simp; omega
        have hn : ¬ StoreP xs next := fun h => n3 h.2.2.1
        have Hn := Lib.hid hn; clear hn
        go_wp2
        go_ret
        exact ⟨false, by simp [Hn.out], rfl, hb⟩

end Go.Proofs.YthmpmagajbmpaaaGreatDoor

/- Slices of texts: words for them, and contracts of the laws' helpers on them (eq, mark, held); of prefixes; of lengths. -/
namespace Go.Proofs.YthmpmagajbmpaaaGreatDoor
open Go.ChangeShapes Go.WideShapes Go.ChangeAt Go.RowKit
set_option linter.unusedVariables false

def sVals (s : ByteArray) : List Value := [.string s]

theorem sVals_length (s : ByteArray) : (sVals s).length = 1 := rfl

/-- a slice of texts -/
def StrsAt (w : World) (B : Nat) (A : Option Addr) (xs : List ByteArray) : Prop := Sl sVals 1 w B A xs

theorem StrsAt.at_ {w : World} {B : Nat} {A : Option Addr} {xs : List ByteArray} (h : StrsAt w B A xs) {k : Nat} (hk : k < xs.length) :
    ∃ b off, A = some ⟨b, off, none⟩ ∧ b < B ∧ w.cell? ⟨b, off + k, none⟩ = some (.string xs[k]) := by
  obtain ⟨b, off, e, hb, hc⟩ := Sl.at_ h hk
  have := hc 0 (.string xs[k]) rfl
  simp only [Nat.mul_one, Nat.add_zero] at this
  exact ⟨b, off, e, hb, this⟩

def smarks (k : Int) (n : Nat) : List ByteArray := (List.range n).map fun i : Nat => mtx (k + (i : Int))

theorem length_smarks (k : Int) (n : Nat) : (smarks k n).length = n := by simp [smarks]

theorem smarks_succ (k : Int) (n : Nat) : smarks k (n + 1) = smarks k n ++ [mtx (k + (n : Int))] := by simp [smarks, List.range_succ]

theorem smarks_at (k : Int) (n i : Nat) (h : i < (smarks k n).length) : (smarks k n)[i] = mtx (k + (i : Int)) := by simp [smarks]

/-- one text is the beginning of another -/
def pfx (s p : ByteArray) : Bool := decide (p.size ≤ s.size) && ((s.extract 0 p.size).toList == p.toList)

theorem litePrefix_any (s p : ByteArray) (w : World) (hs : s.size ≤ maxLen) (hp : p.size ≤ maxLen) : Calls Tryz.prog 210 #[.string s, .string p] w fun e w' => e = .returned (.bool (pfx s p)) ∧ w = w' := by
  unfold maxLen at hs hp
  by_cases h : p.size ≤ s.size
  · have e1 : pfx s p = ((s.extract 0 p.size).toList == p.toList) := by simp [pfx, h]
    have E1 := Lib.hid e1; clear e1
    go_enter Tryz.func210, Tryz.ntmps210
    go_wp2
    go_ret
    exact ⟨by rw [E1.out]; rfl, rfl⟩
  · have e1 : pfx s p = false := by simp [pfx, h]
    have E1 := Lib.hid e1; clear e1
    have d1 : decide ((p.size : Int) ≤ (s.size : Int)) = false := by simp; omega
    go_enter Tryz.func210, Tryz.ntmps210
    go_wp2
    go_ret
    exact ⟨by rw [E1.out]; rfl, rfl⟩

theorem hasPrefix_any (s p : ByteArray) (w : World) (hs : s.size ≤ maxLen) (hp : p.size ≤ maxLen) : Calls Tryz.prog 181 #[.string s, .string p] w fun e w' => e = .returned (.bool (pfx s p)) ∧ w = w' := by
  go_enter Tryz.func181, Tryz.ntmps181
  go_wp2_with fail
  refine (litePrefix_any s p w hs hp).mono ?_
  rintro e w' ⟨rfl, rfl⟩
  go_wp2
  go_ret
  exact ⟨rfl, rfl⟩

/-- some text is longer than a text may be -/
theorem anyTooLong_any (A : Option Addr) (c : Nat) (xs : List ByteArray) (B : Nat) (w : World) (h : StrsAt w B A xs) (hl : xs.length ≤ 4611686018427387904) (hf : ∀ s ∈ xs, s.size ≤ maxLen) :
    Calls Tryz.prog 128 #[.slice A xs.length c] w (IsB (∃ s ∈ xs, 65536 < s.size) w) := by
  unfold maxLen at hf
  have H := Lib.hid h; clear h
  have Hf := Lib.hid hf; clear hf
  go_enter Tryz.func128, Tryz.ntmps128
  go_wp2_with fail
  go_loop [7] (fun i => ∃ k : Nat, k ≤ xs.length ∧ i = .int .i64 k ∧ Hid (∀ s ∈ xs.take k, ¬ 65536 < s.size)) (fun i => xs.length - (intOf i).toNat)
  case atStart => exact ⟨0, by omega, rfl, Lib.hid (by simp)⟩
  case round =>
    obtain ⟨k, hk, rfl, Hn⟩ := hrel
    by_cases hlt : k < xs.length
    · obtain ⟨b, off, rfl, hb, p0⟩ := StrsAt.at_ H.out hlt
      have hs : xs[k].size ≤ 2 ^ 63 - 1 := Hf.out _ (List.getElem_mem hlt)
      by_cases hc : 65536 < xs[k].size
      · have hy : ∃ s ∈ xs, 65536 < s.size := ⟨xs[k], List.getElem_mem hlt, hc⟩
        have Hy := Lib.hid hy; clear hy
        have d : decide (65536 < (xs[k].size : Int)) = true := by simp; omega
        go_wp2
        go_ret
        exact IsB.yes Hy.out
      · have hn : ∀ s ∈ xs.take (k + 1), ¬ 65536 < s.size := by
          rw [List.take_succ_eq_append_getElem hlt]
          intro s hs'
          rcases List.mem_append.1 hs' with h1 | h1
          · exact Hn.out s h1
          · simp at h1; subst h1; exact hc
        have Hn2 := Lib.hid hn; clear hn
        have d : decide (65536 < (xs[k].size : Int)) = false := by simp; omega
        go_wp2
        go_round
        case rel => exact ⟨k + 1, by omega, by go_num, Hn2⟩
        case measure => simp [intOf]; omega
    · have hn : ¬ ∃ s ∈ xs, 65536 < s.size := by
        rintro ⟨s, hs, hc⟩
        have := Hn.out s (by rw [List.take_of_length_le (by omega)]; exact hs)
        exact this hc
      have Hno := Lib.hid hn; clear hn
      go_wp2
      go_ret
      exact IsB.no Hno.out

end Go.Proofs.YthmpmagajbmpaaaGreatDoor

/- A map from texts to objects that the call made: what it holds, looked up, written, struck; the fault that calls on a key look for first; contract of open. -/
namespace Go.Proofs.YthmpmagajbmpaaaGreatDoor
open Go.ChangeShapes Go.WideShapes Go.ChangeAt Go.RowKit Go.Maps
set_option linter.unusedVariables false

theorem strKeyed : Keyed Tryz.prog 9 := string_keyed Tryz.underlying9

/-- an object as a datum -/
def objD (o : GObj) : DataW Unit := .agg [.lit (.string o.key.data.toList), .lit (.int .i64 o.ver), .lit (.string o.data.data.toList)]

/-- how an element reads -/
def objElem (v : Value) : Option (DataW Unit × List MemPlace) :=
  match v with
  | .agg cs => match cs.toList with
    | [.string k, .int .i64 n, .string d] => some (.agg [.lit (.string k.data.toList), .lit (.int .i64 n), .lit (.string d.data.toList)], [])
    | _ => none
  | _ => none

theorem objElem_mk (o : GObj) : objElem (.agg #[.string o.key, .int .i64 o.ver, .string o.data]) = some (objD o, []) := rfl

theorem objD_inj {o p : GObj} (h : objD o = objD p) : o = p := by
  unfold objD at h
  injection h with h
  simp only [List.cons.injEq, DataW.lit.injEq, Lit.string.injEq, Lit.int.injEq, true_and, and_true] at h
  obtain ⟨h0, h1, h2⟩ := h
  obtain ⟨k, v, d⟩ := o
  obtain ⟨k', v', d'⟩ := p
  simp only at h0 h1 h2
  rw [bytes_inj h0, h1, bytes_inj h2]

theorem objElem_inv {v : Value} {o : GObj} {ps : List MemPlace} (h : objElem v = some (objD o, ps)) : v = .agg #[.string o.key, .int .i64 o.ver, .string o.data] := by
  unfold objElem at h
  split at h
  · rename_i cs
    split at h
    · rename_i k n d he
      simp only [Option.some.injEq, Prod.mk.injEq] at h
      have := objD_inj (o := ⟨k, n, d⟩) (p := o) h.1
      subst this
      have : cs = #[.string k, .int .i64 n, .string d] := by
        apply Array.toList_inj.1; rw [he]
      rw [this]
    · cases h
  · cases h

/-- a text as a key's datum -/
def kl (s : ByteArray) : Lit := .string s.data.toList

theorem kl_inj {a b : ByteArray} (h : kl a = kl b) : a = b := by unfold kl at h; injection h with h; exact bytes_inj h

/-- a datum says of each text which object it has -/
def Tells (D : DataW Unit) (f : ByteArray → Option GObj) : Prop := ∀ k, (∀ z, D.atKey (kl k) z = match f k with | some o => objD o | none => z)

theorem Tells.has {D : DataW Unit} {f : ByteArray → Option GObj} (h : Tells D f) (k : ByteArray) : Maps.has D (kl k) = (f k).isSome := by
  have hk := h k
  cases hf : f k with
  | none => rw [hf] at hk; exact has_false_of_atKey hk
  | some o => rw [hf] at hk; exact has_true_of_atKey hk

theorem Tells.empty : Tells (.map []) (fun _ => none) := fun k z => rfl

theorem Tells.put {D : DataW Unit} {f : ByteArray → Option GObj} (h : Tells D f) (hm : IsMap D) (k : ByteArray) (o : GObj) : Tells (D.put (kl k) (objD o)) (fun x => if x = k then some o else f x) := by
  intro x z
  by_cases e : x = k
  · subst e
    simp only [if_true]
    exact atKey_put_same hm (by trivial) _ _
  · simp only [e, if_false]
    rw [atKey_put_other (fun hh => e (kl_inj hh))]
    exact h x z

theorem Tells.del {D : DataW Unit} {f : ByteArray → Option GObj} (h : Tells D f) (k : ByteArray) : Tells (D.del (kl k)) (fun x => if x = k then none else f x) := by
  intro x z
  by_cases e : x = k
  · subst e
    simp only [if_true]
    exact atKey_del_same _
  · simp only [e, if_false]
    rw [atKey_del_other (fun hh => e (kl_inj hh))]
    exact h x z

/-- block b is a map that tells of f, of at most n entries -/
def ObjMap (w : World) (b n : Nat) (f : ByteArray → Option GObj) : Prop := ∃ D : DataW Unit, w.ownsMap Tryz.prog 9 objElem b n D ∧ Tells D f

theorem zeroObjV (w : World) : (zeroValue 92).run Tryz.prog w = .ok (.agg #[.string ⟨#[]⟩, .int .i64 0, .string ⟨#[]⟩]) w := by kernel_rfl

theorem ObjMap.made (w : World) : ObjMap (w.alloc (.map #[] 0)) w.heap.size 0 (fun _ => none) := ⟨_, World.ownsMap_made _ _ _ _, Tells.empty⟩

theorem ObjMap.lt {w : World} {b n : Nat} {f : ByteArray → Option GObj} (h : ObjMap w b n f) : b < w.heap.size := by obtain ⟨D, hown, _⟩ := h; exact hown.lt

theorem ObjMap.grown {w w' : World} {b n : Nat} {f : ByteArray → Option GObj} (h : ObjMap w b n f) {row : Option Nat} (hg : w.grownBy w' row) (hr : some b ≠ row) : ObjMap w' b n f := by
  obtain ⟨D, hown, hat⟩ := h
  exact ⟨D, hown.kept hg hr, hat⟩

theorem ObjMap.below {w w' : World} {b n : Nat} {f : ByteArray → Option GObj} (h : ObjMap w b n f) (hb : Below w.heap.size w w') : ObjMap w' b n f := h.grown (grown_of_below hb none) (by simp)

/-- the object that a look-up answers: the one that is there, or one of zeros -/
def orZero : Option GObj → GObj
  | some o => o
  | none => zObj

theorem ObjMap.look {w : World} {b n : Nat} {f : ByteArray → Option GObj} (h : ObjMap w b n f) {k : ByteArray} (hk : k.size ≤ maxLen) :
    (Instr.lookup 86 (.map (some b)) (.string k) true).run Tryz.prog w = .ok (.tuple #[.agg #[.string (orZero (f k)).key, .int .i64 (orZero (f k)).ver, .string (orZero (f k)).data], .bool (f k).isSome]) w := by
  obtain ⟨D, hown, hat⟩ := h
  obtain ⟨u, ps, hrun, hu⟩ := hown.look_ok strKeyed Tryz.underlying86 (zeroObjV w) (objElem_mk zObj) (WideMaps.keyOf_string_mk Tryz.underlying9 hk)
  have h1 := hat k (objD zObj)
  have hh := hat.has k
  unfold kl at h1 hh
  rw [h1] at hu
  rw [hrun, hh]
  cases hf : f k with
  | none => rw [hf] at hu; rw [objElem_inv hu]; rfl
  | some o => rw [hf] at hu; rw [objElem_inv hu]; rfl

theorem ObjMap.put {w : World} {b n : Nat} {f : ByteArray → Option GObj} (h : ObjMap w b n f) (hn : n < maxLen) {k : ByteArray} (hk : k.size ≤ maxLen) (o : GObj) :
    ∃ w', (Instr.mapUpdate 86 (.map (some b)) (.string k) (.agg #[.string o.key, .int .i64 o.ver, .string o.data])).run Tryz.prog w = .ok () w' ∧ ObjMap w' b (n + 1) (fun x => if x = k then some o else f x) ∧ w.grownBy w' (some b) := by
  obtain ⟨D, hown, hat⟩ := h
  obtain ⟨w', hrun, hown', hg⟩ := hown.update strKeyed Tryz.underlying86 hn (WideMaps.keyOf_string_mk Tryz.underlying9 hk) (objElem_mk o)
  exact ⟨w', hrun, ⟨_, hown', hat.put hown.isMap k o⟩, hg⟩

/-- the first object of a key -/
def look (xs : List GObj) (k : ByteArray) : Option GObj := xs.find? fun o => decide (o.key = k)

/-- what open's map tells behind j rounds: the last object of a key -/
def tell (xs : List GObj) : Nat → ByteArray → Option GObj
  | 0, _ => none
  | j + 1, x => match xs[j]? with
    | some o => if x = o.key then some o else tell xs j x
    | none => tell xs j x

theorem tell_succ (xs : List GObj) (j : Nat) (h : j < xs.length) : tell xs (j + 1) = fun x => if x = xs[j].key then some xs[j] else tell xs j x := by
  funext x
  simp [tell, List.getElem?_eq_getElem h]

end Go.Proofs.YthmpmagajbmpaaaGreatDoor

/- Contracts of (Store).open and of (Store).fault. -/
namespace Go.Proofs.YthmpmagajbmpaaaGreatDoor
open Go.ChangeShapes Go.WideShapes Go.ChangeAt Go.RowKit Go.Maps
set_option linter.unusedVariables false

theorem run_makeObjMap (n : Int) (w : World) : (Instr.makeMap 86 (some (.int .i64 n))).run Tryz.prog w = .ok (.map (some w.heap.size)) (w.alloc (.map #[] 0)) :=
  run_makeMap_some 86 9 92 n Tryz.underlying86 w

/-- a shelf: a struct of a map and a number, in a block of its own -/
def Shelf (w : World) (g m n : Nat) (next : Int) (f : ByteArray → Option GObj) : Prop :=
  Two w g (.map (some m)) (.int .i64 next) ∧ (∀ i, w.frozen? ⟨g, i, none⟩ = false) ∧ ObjMap w m n f ∧ g ≠ m ∧ g < w.heap.size

set_option maxRecDepth 100000 in
theorem open_any (A : Option Addr) (c : Nat) (next : Int) (xs : List GObj) (B : Nat) (w : World) (h : ObjsAt w B A xs) (hB : B ≤ w.heap.size) (hf : ∀ o ∈ xs, o.fit) (hl : xs.length ≤ 300) :
    Calls Tryz.prog 51 #[.agg #[.slice A xs.length c, .int .i64 next]] w fun e w' => ∃ g m, e = .returned (.pointer (some ⟨g, 0, none⟩)) ∧ Shelf w' g m xs.length next (tell xs xs.length) ∧ w.heap.size ≤ g ∧ w.heap.size ≤ m ∧ Below w.heap.size w w' := by
  have H := Lib.hid h; clear h
  have Hf := Lib.hid hf; clear hf
  have hmk := run_makeObjMap (xs.length : Int)
  go_enter Tryz.func51, Tryz.ntmps51
  go_wp2_with fail
  go_region
  obtain ⟨W, hW⟩ : ∃ W, W = (((w.alloc (.cells #[.slice A xs.length c, .int .i64 next] 51)).alloc (.map #[] 0)).alloc (.cells #[.map (some (w.heap.size + 1)), .int .i64 next] 88)).drew := ⟨_, rfl⟩
  have t1 : Two W w.heap.size (.slice A xs.length c) (.int .i64 next) := by rw [hW]; exact ((Two.new w _ _ _).alloc (by simp) _).alloc (by simp; omega) _
  have t2 : Two W (w.heap.size + 2) (.map (some (w.heap.size + 1))) (.int .i64 next) := by
    rw [hW]; have := Two.new ((w.alloc (.cells #[.slice A xs.length c, .int .i64 next] 51)).alloc (.map #[] 0)) (.map (some (w.heap.size + 1))) (.int .i64 next) 88
    have e : ((w.alloc (.cells #[.slice A xs.length c, .int .i64 next] 51)).alloc (.map #[] 0)).heap.size = w.heap.size + 2 := by simp
    rw [e] at this; exact this
  have f2 : ∀ i, W.frozen? ⟨w.heap.size + 2, i, none⟩ = false := fun i => by
    rw [hW]; have := free_alloc ((w.alloc (.cells #[.slice A xs.length c, .int .i64 next] 51)).alloc (.map #[] 0)) #[.map (some (w.heap.size + 1)), .int .i64 next] 88 0 (w.heap.size + 2) (by simp [blk]) i; simpa using this
  have m1 : ObjMap W (w.heap.size + 1) 0 (tell xs 0) := by
    rw [hW]
    have h1 := ObjMap.made (w.alloc (.cells #[.slice A xs.length c, .int .i64 next] 51))
    have h2 := h1.below (bal (Below.refl _ _) (.cells #[.map (some (w.heap.size + 1)), .int .i64 next] 88))
    obtain ⟨D, hD, hT⟩ := h2
    exact ⟨D, by simpa using hD.drew, hT⟩
  have b0 : Below w.heap.size w W := by rw [hW]; exact (bal (bal (bal (Below.refl _ _) _) _) _).drew
  have s0 : w.heap.size + 2 < W.heap.size := by rw [hW]; simp
  rw [← hW]
  clear hW hmk
  have T1 := Lib.hid t1
  have T2 := Lib.hid t2; clear t2
  have F2 := Lib.hid f2; clear f2
  have M1 := Lib.hid m1; clear m1
  obtain ⟨t10, t11⟩ := t1
  rw [show w.heap.size + 1 + 1 = w.heap.size + 2 from rfl]
  go_wp2_with fail
  go_loopw [17] (fun i wr => ∃ k : Nat, k ≤ xs.length ∧ i = .int .i64 k ∧ Hid (Two wr (w.heap.size + 2) (.map (some (w.heap.size + 1))) (.int .i64 next)) ∧ Hid (∀ i, wr.frozen? ⟨w.heap.size + 2, i, none⟩ = false) ∧ Hid (ObjMap wr (w.heap.size + 1) k (tell xs k)) ∧ w.heap.size + 2 < wr.heap.size ∧ Below w.heap.size w wr) (fun i _ => xs.length - (intOf i).toNat)
  case atStart => exact ⟨0, by omega, rfl, T2, F2, M1, s0, b0⟩
  case round =>
    clear T1 T2 F2 M1 s0 b0 t10 t11
    obtain ⟨k, hk, rfl, HT, HF, HM, hs, hb⟩ := hrel
    by_cases hlt : k < xs.length
    · obtain ⟨b, off, rfl, hbB, p0, p1, p2⟩ := ObjsAt.obj (Sl.below H.out hb hB) hlt
      have hkey : xs[k].key.size ≤ maxLen := (Hf.out _ (List.getElem_mem hlt)).1.1
      have Hkey := Lib.hid hkey; clear hkey
      go_wp2_with fail
      obtain ⟨Wc, hWc⟩ : ∃ Wc, Wc = wr.alloc (.cells #[.string xs[k].key, .int .i64 xs[k].ver, .string xs[k].data] 92) := ⟨_, rfl⟩
      have o0 : Wc.cell? ⟨wr.heap.size, 0, none⟩ = some (.string xs[k].key) := by rw [hWc]; simp
      have o1 : Wc.cell? ⟨wr.heap.size, 1, none⟩ = some (.int .i64 xs[k].ver) := by rw [hWc]; simp
      have o2 : Wc.cell? ⟨wr.heap.size, 2, none⟩ = some (.string xs[k].data) := by rw [hWc]; simp
      have bc : Below wr.heap.size wr Wc := by rw [hWc]; exact bal (Below.refl _ _) _
      rw [← hWc]
      clear hWc p0 p1 p2
      obtain ⟨t10, t11⟩ := HT.out.below bc hs
      have HTc := Lib.hid (HT.out.below bc hs)
      have HFc := Lib.hid (show ∀ i, Wc.frozen? ⟨w.heap.size + 2, i, none⟩ = false from fun i => (bc.frozen hs).trans (HF.out i))
      have HMc := Lib.hid (HM.out.below bc)
      have hbc := bnext hb bc
      have hsc : w.heap.size + 2 < Wc.heap.size := Nat.lt_of_lt_of_le hs bc.size
      clear bc
      go_still_tail 7, (by kernel_rfl)
      change wpList _ _ _ _ _ Wc.drew
      have hmd : ObjMap Wc.drew (w.heap.size + 1) k (tell xs k) := by obtain ⟨D, hD, hT⟩ := HMc.out; exact ⟨D, hD.drew, hT⟩
      obtain ⟨w3, hrun, hm3, hg3⟩ := hmd.put (by simp only [maxLen]; omega) Hkey.out xs[k]
      clear hmd o0 o1 o2 t10 t11
      have hg3' : Wc.grownBy w3 (some (w.heap.size + 1)) := ⟨hg3.os, hg3.tape, hg3.output, hg3.size, hg3.block⟩
      have HT3 := Lib.hid (HTc.out.grown hg3' hsc (fun g e => by injection e with e; omega))
      have HF3 := Lib.hid (show ∀ i, w3.frozen? ⟨w.heap.size + 2, i, none⟩ = false from fun i => (World.frozen?_of_block (a := ⟨w.heap.size + 2, i, none⟩) (hg3'.block (w.heap.size + 2) hsc (fun e => by injection e with e; omega))).trans (HFc.out i))
      rw [← tell_succ xs k hlt] at hm3
      have HM3 := Lib.hid hm3; clear hm3
      have hs3 : w.heap.size + 2 < w3.heap.size := Nat.lt_of_lt_of_le hsc hg3'.size
      have hb3 : Below w.heap.size w w3 := hbc.trans (below_of_grown hg3' (by omega) (fun g e => by injection e with e; omega))
      clear hg3 hg3'
      go_wp2
      go_roundw
      case rel => exact ⟨k + 1, by omega, by go_num, HT3, HF3, HM3, hs3, hb3⟩
      case measure => simp [intOf]; omega
    · obtain rfl : k = xs.length := by omega
      go_wp2
      go_ret
      exact ⟨w.heap.size + 2, w.heap.size + 1, rfl, ⟨HT.out, HF.out, HM.out, by omega, hs⟩, by omega, by omega, hb⟩

/-- what a call on a key finds ahead of its own codes -/
def FaultP (xs : List GObj) (next : Int) (key : ByteArray) (ts : List ByteArray) (code : Int) : Prop :=
  ((65536 < key.size ∨ ∃ t ∈ ts, 65536 < t.size) ∧ code = 2) ∨ (¬ (65536 < key.size ∨ ∃ t ∈ ts, 65536 < t.size) ∧ ¬ StoreP xs next ∧ code = 1) ∨
  (¬ (65536 < key.size ∨ ∃ t ∈ ts, 65536 < t.size) ∧ StoreP xs next ∧ ¬ KeyP key ∧ code = 19) ∨ (¬ (65536 < key.size ∨ ∃ t ∈ ts, 65536 < t.size) ∧ StoreP xs next ∧ KeyP key ∧ code = 0)

theorem fault_any (A : Option Addr) (c : Nat) (next : Int) (xs : List GObj) (key : ByteArray) (At : Option Addr) (ct : Nat) (ts : List ByteArray) (B : Nat) (w : World) (h : ObjsAt w B A xs) (ht : StrsAt w B At ts) (hB : B ≤ w.heap.size) (hf : ∀ o ∈ xs, o.fit) (hl : xs.length ≤ 1048576) (hk : key.size ≤ maxLen) (hts : ∀ t ∈ ts, t.size ≤ maxLen) (htl : ts.length ≤ 4) :
    Calls Tryz.prog 95 #[.agg #[.slice A xs.length c, .int .i64 next], .string key, .slice At ts.length ct] w fun e w' => ∃ code, FaultP xs next key ts code ∧ e = .returned (.int .i64 code) ∧ Below w.heap.size w w' := by
  have H := Lib.hid h; clear h
  have Ht := Lib.hid ht; clear ht
  have Hf := Lib.hid hf; clear hf
  have Hk := Lib.hid hk; clear hk
  have Hts := Lib.hid hts; clear hts
  go_enter Tryz.func95, Tryz.ntmps95
  go_wp2_with fail
  obtain ⟨W, hW⟩ : ∃ W, W = (w.alloc (.cells #[.slice A xs.length c, .int .i64 next] 51)).alloc (.cells #[.string key] 9) := ⟨_, rfl⟩
  have t1 : Two W w.heap.size (.slice A xs.length c) (.int .i64 next) := by rw [hW]; exact (Two.new _ _ _ _).alloc (by simp) _
  have k1 : W.cell? ⟨w.heap.size + 1, 0, none⟩ = some (.string key) := by rw [hW]; simp
  have b0 : Below w.heap.size w W := by rw [hW]; exact bal (bal (Below.refl _ _) _) _
  have s0 : w.heap.size + 1 < W.heap.size := by rw [hW]; simp
  rw [← hW]
  clear hW
  have hst : StrsAt W W.heap.size (some ⟨w.heap.size + 1, 0, none⟩) [key] := by
    intro _
    refine ⟨w.heap.size + 1, 0, rfl, s0, fun k hk j v hv => ?_⟩
    match k, j, hk, hv with
    | 0, 0, _, hv => simp [sVals] at hv; subst hv; simpa using k1
    | 0, j + 1, _, hv => simp [sVals] at hv
    | k + 1, _, hk, _ => simp at hk
  have T0 := Lib.hid t1; clear t1 k1
  refine (anyTooLong_any (some ⟨w.heap.size + 1, 0, none⟩) 1 [key] W.heap.size W hst (by simp) (by simp; exact Hk.out)).mono ?_
  rintro e w' ⟨b1, hb1, rfl, rfl⟩
  clear hst
  have hlg : b1 = true ↔ 65536 < key.size := by rw [hb1]; simp
  clear hb1
  cases b1
  · have nk : ¬ 65536 < key.size := fun h => by have := hlg.2 h; cases this
    have NK := Lib.hid nk; clear nk hlg
    go_wp2_with fail
    refine (anyTooLong_any At ct ts B W (Sl.below Ht.out b0 hB) (by omega) Hts.out).mono ?_
    rintro e w' ⟨b2, hb2, rfl, rfl⟩
    have H2 := Lib.hid hb2; clear hb2
    cases b2
    · have nl : ¬ (65536 < key.size ∨ ∃ t ∈ ts, 65536 < t.size) := fun h => h.elim NK.out (fun h => by have := H2.out.2 h; cases this)
      have NL := Lib.hid nl; clear nl H2
      obtain ⟨t10, t11⟩ := T0.out
      go_wp2_with fail
      refine (right_any A c next xs B W (Sl.below H.out b0 hB) (by omega) Hf.out hl).mono ?_
      rintro e w1 ⟨bb, hbb, rfl, hbr⟩
      have b1 := bnext b0 hbr
      clear hbr
      cases bb
      · have hr : FaultP xs next key ts 1 := .inr (.inl ⟨NL.out, (fun h => by have := hbb.2 h; cases this), rfl⟩)
        have Hr := Lib.hid hr; clear hr hbb
        go_wp2
        go_ret
        exact ⟨1, Hr.out, rfl, b1⟩
      · have hS : StoreP xs next := hbb.1 rfl
        have HS := Lib.hid hS; clear hS hbb
        go_wp2_with fail
        refine (key_any key w1 Hk.out).mono ?_
        rintro e w' ⟨bk, hbk, rfl, rfl⟩
        cases bk
        · have hr : FaultP xs next key ts 19 := .inr (.inr (.inl ⟨NL.out, HS.out, (fun h => by have := hbk.2 h; cases this), rfl⟩))
          have Hr := Lib.hid hr; clear hr hbk
          go_wp2
          go_ret
          exact ⟨19, Hr.out, rfl, b1⟩
        · have hr : FaultP xs next key ts 0 := .inr (.inr (.inr ⟨NL.out, HS.out, hbk.1 rfl, rfl⟩))
          have Hr := Lib.hid hr; clear hr hbk
          go_wp2
          go_ret
          exact ⟨0, Hr.out, rfl, b1⟩
    · have hr : FaultP xs next key ts 2 := .inl ⟨.inr (H2.out.1 rfl), rfl⟩
      have Hr := Lib.hid hr; clear hr H2
      go_wp2
      go_ret
      exact ⟨2, Hr.out, rfl, b0⟩
  · have hr : FaultP xs next key ts 2 := .inl ⟨.inl (hlg.1 rfl), rfl⟩
    have Hr := Lib.hid hr; clear hr hlg
    go_wp2
    go_ret
    exact ⟨2, Hr.out, rfl, b0⟩

end Go.Proofs.YthmpmagajbmpaaaGreatDoor

/- Contracts of GetObject of both packages. -/
namespace Go.Proofs.YthmpmagajbmpaaaGreatDoor
open Go.ChangeShapes Go.WideShapes Go.ChangeAt Go.RowKit Go.Maps
set_option linter.unusedVariables false

theorem bl_iff (a b : ByteArray) : bl a b = true ↔ a.data.toList < b.data.toList := by
  unfold bl
  rw [bytesLess_eq, ByteArray.toList_eq, ByteArray.toList_eq]
  simp

theorem key_lt {xs : List GObj} {next : Int} (hs : StoreP xs next) : ∀ (d i : Nat) (h : i + d + 1 < xs.length), xs[i].key.data.toList < xs[i + d + 1].key.data.toList
  | 0, i, h => (bl_iff _ _).1 (hs.2.2.2.2.1 i h h)
  | d + 1, i, h => List.lt_trans (key_lt hs d i (by omega)) ((bl_iff _ _).1 (hs.2.2.2.2.1 (i + d + 1) h h))

theorem key_ne {xs : List GObj} {next : Int} (hs : StoreP xs next) {i j : Nat} (hj : j < xs.length) (hij : i < j) : xs[i].key ≠ xs[j].key := by
  intro e
  have h := key_lt hs (j - i - 1) i (by omega)
  have e2 : i + (j - i - 1) + 1 = j := by omega
  simp only [e2] at h
  rw [e] at h
  exact List.lt_irrefl _ h

theorem look_none {xs : List GObj} {k : ByteArray} : look xs k = none ↔ ∀ i (h : i < xs.length), xs[i].key ≠ k := by
  unfold look
  rw [List.find?_eq_none]
  constructor
  · intro h i hi e
    exact h xs[i] (List.getElem_mem hi) (by simpa using e)
  · intro h o ho
    obtain ⟨i, hi, rfl⟩ := List.mem_iff_getElem.1 ho
    simpa using h i hi

theorem look_some {xs : List GObj} {k : ByteArray} {i : Nat} (hi : i < xs.length) (he : xs[i].key = k) (hn : ∀ j (h : j < xs.length), j < i → xs[j].key ≠ k) : look xs k = some xs[i] := by
  unfold look
  rw [List.find?_eq_some_iff_getElem]
  exact ⟨by simpa using he, i, hi, rfl, fun j hj => by simpa using hn j (by omega) hj⟩

theorem tell_none {xs : List GObj} {k : ByteArray} : ∀ n, n ≤ xs.length → (∀ i (h : i < xs.length), i < n → xs[i].key ≠ k) → tell xs n k = none
  | 0, _, _ => rfl
  | n + 1, hn, h => by
    rw [tell_succ xs n (by omega)]
    have := h n (by omega) (by omega)
    simp only [Ne.symm this, if_false]
    exact tell_none n (by omega) (fun i hi hin => h i hi (by omega))

theorem tell_some {xs : List GObj} {k : ByteArray} {i : Nat} (hi : i < xs.length) (he : xs[i].key = k) : ∀ n, i < n → n ≤ xs.length → (∀ j (h : j < xs.length), i < j → xs[j].key ≠ k) → tell xs n k = some xs[i]
  | 0, h, _, _ => by omega
  | n + 1, hin, hn, h => by
    rw [tell_succ xs n (by omega)]
    by_cases e : n = i
    · subst e
      simp [he]
    · have := h n (by omega) (by omega)
      simp only [Ne.symm this, if_false]
      exact tell_some hi he n (by omega) (by omega) h

theorem tell_look {xs : List GObj} {next : Int} (hs : StoreP xs next) (k : ByteArray) : tell xs xs.length k = look xs k := by
  by_cases h : ∃ i, ∃ hi : i < xs.length, xs[i].key = k
  · obtain ⟨i, hi, he⟩ := h
    rw [tell_some hi he xs.length hi (Nat.le_refl _) (fun j hj hij e => key_ne hs hj hij (he.trans e.symm)), look_some hi he (fun j hj hij e => key_ne hs hi hij (e.trans he.symm))]
  · have h' : ∀ i (hi : i < xs.length), xs[i].key ≠ k := fun i hi e => h ⟨i, hi, e⟩
    rw [tell_none xs.length (Nat.le_refl _) (fun i hi _ => h' i hi), look_none.2 h']

/-- where a key is found first; -1 of none -/
def FindP (xs : List GObj) (key : ByteArray) (v : Int) : Prop := (∃ i : Nat, ∃ h : i < xs.length, v = (i : Int) ∧ xs[i].key = key ∧ ∀ j (hj : j < xs.length), j < i → xs[j].key ≠ key) ∨ (v = -1 ∧ ∀ i (h : i < xs.length), xs[i].key ≠ key)

theorem find_any (A : Option Addr) (c : Nat) (next : Int) (xs : List GObj) (key : ByteArray) (B : Nat) (w : World) (h : ObjsAt w B A xs) (hB : B ≤ w.heap.size) (hl : xs.length ≤ 1048576) :
    Calls Tryz.prog 123 #[.agg #[.slice A xs.length c, .int .i64 next], .string key] w fun e w' => ∃ v, FindP xs key v ∧ e = .returned (.int .i64 v) ∧ Below w.heap.size w w' := by
  have H := Lib.hid h; clear h
  go_enter Tryz.func123, Tryz.ntmps123
  go_wp2_with fail
  obtain ⟨W, hW⟩ : ∃ W, W = w.alloc (.cells #[.slice A xs.length c, .int .i64 next] 51) := ⟨_, rfl⟩
  have t1 : Two W w.heap.size (.slice A xs.length c) (.int .i64 next) := by rw [hW]; exact Two.new _ _ _ _
  have b0 : Below w.heap.size w W := by rw [hW]; exact bal (Below.refl _ _) _
  rw [← hW]
  clear hW
  obtain ⟨t10, t11⟩ := t1
  go_loop [5] (fun i => ∃ k : Nat, k ≤ xs.length ∧ i = .int .i64 k ∧ Hid (∀ j (h : j < xs.length), j < k → xs[j].key ≠ key)) (fun i => xs.length - (intOf i).toNat)
  case atStart => exact ⟨0, by omega, rfl, Lib.hid (fun j _ h => by omega)⟩
  case round =>
    obtain ⟨k, hk, rfl, Hn⟩ := hrel
    by_cases hlt : k < xs.length
    · obtain ⟨b, off, rfl, hbB, p0, p1, p2⟩ := ObjsAt.obj (Sl.below H.out b0 hB) hlt
      by_cases he : xs[k].key = key
      · have hr : FindP xs key (k : Int) := .inl ⟨k, hlt, rfl, he, Hn.out⟩
        have Hr := Lib.hid hr; clear hr
        have d : (xs[k].key.toList == key.toList) = true := by rw [he]; simp
        clear he
        go_wp2
        go_ret
        exact ⟨k, Hr.out, rfl, b0⟩
      · have hn : ∀ j (h : j < xs.length), j < k + 1 → xs[j].key ≠ key := fun j hj hjk => by
          by_cases e : j = k
          · subst e; exact he
          · exact Hn.out j hj (by omega)
        have Hn2 := Lib.hid hn; clear hn
        have d := ne_list he
        clear he
        go_wp2
        go_round
        case rel => exact ⟨k + 1, by omega, by go_num, Hn2⟩
        case measure => simp [intOf]; omega
    · have hr : FindP xs key (-1) := .inr ⟨rfl, fun i hi => Hn.out i hi (by omega)⟩
      have Hr := Lib.hid hr; clear hr
      go_wp2
      go_ret
      exact ⟨-1, Hr.out, rfl, b0⟩

theorem look_of_find {xs : List GObj} {key : ByteArray} {v : Int} (h : FindP xs key v) : (v < 0 ∧ look xs key = none) ∨ (∃ i : Nat, ∃ hi : i < xs.length, v = (i : Int) ∧ look xs key = some xs[i]) := by
  rcases h with ⟨i, hi, rfl, he, hn⟩ | ⟨rfl, hn⟩
  · exact .inr ⟨i, hi, rfl, look_some hi he hn⟩
  · exact .inl ⟨by omega, look_none.2 hn⟩

/-- data and version of an object, or of none -/
theorem specGet_any (A : Option Addr) (c : Nat) (next : Int) (xs : List GObj) (key : ByteArray) (B : Nat) (w : World) (h : ObjsAt w B A xs) (hB : B ≤ w.heap.size) (hl : xs.length ≤ 1048576) :
    Calls Tryz.prog 84 #[.agg #[.slice A xs.length c, .int .i64 next], .string key] w fun e w' => e = .returned (.tuple #[.string (orZero (look xs key)).data, .int .i64 (orZero (look xs key)).ver]) ∧ Below w.heap.size w w' := by
  have H := Lib.hid h; clear h
  go_enter Tryz.func84, Tryz.ntmps84
  go_wp2_with fail
  obtain ⟨W, hW⟩ : ∃ W, W = w.alloc (.cells #[.slice A xs.length c, .int .i64 next] 51) := ⟨_, rfl⟩
  have t1 : Two W w.heap.size (.slice A xs.length c) (.int .i64 next) := by rw [hW]; exact Two.new _ _ _ _
  have b0 : Below w.heap.size w W := by rw [hW]; exact bal (Below.refl _ _) _
  have s0 : w.heap.size < W.heap.size := by rw [hW]; simp
  rw [← hW]
  clear hW
  have T0 := Lib.hid t1; clear t1
  refine (find_any A c next xs key B W (Sl.below H.out b0 hB) (by omega) hl).mono ?_
  rintro e w1 ⟨v, hv, rfl, hb1⟩
  have b1 := bnext b0 hb1
  rcases look_of_find hv with ⟨hneg, hlk⟩ | ⟨i, hi, rfl, hlk⟩
  · have d : decide (v < 0) = true := by simpa using hneg
    have Hlk := Lib.hid hlk; clear hlk hv hneg
    go_wp2
    go_ret2
    exact ⟨by rw [Hlk.out]; rfl, b1⟩
  · have Hlk := Lib.hid hlk; clear hlk hv
    have d : decide ((i : Int) < 0) = false := by simp
    obtain ⟨t10, t11⟩ := T0.out.below hb1 s0
    obtain ⟨b, off, rfl, hbB, p0, p1, p2⟩ := ObjsAt.obj (Sl.below H.out b1 hB) hi
    have i0 : (0 : Int) ≤ (i : Int) := by omega
    have i1 : (i : Int) < (xs.length : Int) := by omega
    go_wp2_with fail
    go_quiet (fail)
    go_wp2
    go_ret2
    exact ⟨by rw [Hlk.out]; rfl, bdrewN b1 _⟩

theorem FaultP.one {xs : List GObj} {next : Int} {key : ByteArray} {ts : List ByteArray} {a b : Int} (h : FaultP xs next key ts a) (h' : FaultP xs next key ts b) : b = a := by
  rcases h with ⟨a1, rfl⟩ | ⟨a1, a2, rfl⟩ | ⟨a1, a2, a3, rfl⟩ | ⟨a1, a2, a3, rfl⟩ <;>
    rcases h' with ⟨b1, rfl⟩ | ⟨b1, b2, rfl⟩ | ⟨b1, b2, b3, rfl⟩ | ⟨b1, b2, b3, rfl⟩ <;>
    first | rfl | (exfalso; first | exact a1 b1 | exact b1 a1 | exact a2 b2 | exact b2 a2 | exact a3 b3 | exact b3 a3)

theorem FaultP.zero {xs : List GObj} {next : Int} {key : ByteArray} {ts : List ByteArray} (h : FaultP xs next key ts 0) : StoreP xs next ∧ KeyP key := by
  rcases h with ⟨_, h⟩ | ⟨_, _, h⟩ | ⟨_, _, _, h⟩ | ⟨_, a2, a3, _⟩
  · cases h
  · cases h
  · cases h
  · exact ⟨a2, a3⟩

/-- what GetObject answers -/
def GetR (xs : List GObj) (next : Int) (key : ByteArray) (d : ByteArray) (v code : Int) : Prop :=
  (FaultP xs next key [] code ∧ code ≠ 0 ∧ d = ⟨#[]⟩ ∧ v = 0) ∨ (FaultP xs next key [] 0 ∧ look xs key = none ∧ d = ⟨#[]⟩ ∧ v = 0 ∧ code = 5) ∨ (∃ o, FaultP xs next key [] 0 ∧ look xs key = some o ∧ d = o.data ∧ v = o.ver ∧ code = 0)

theorem GetR.one {xs : List GObj} {next : Int} {key d d' : ByteArray} {v v' code code' : Int} (h : GetR xs next key d v code) (h' : GetR xs next key d' v' code') : d' = d ∧ v' = v ∧ code' = code := by
  rcases h with ⟨f, n, rfl, rfl⟩ | ⟨f, l, rfl, rfl, rfl⟩ | ⟨o, f, l, rfl, rfl, rfl⟩
  · rcases h' with ⟨f', n', rfl, rfl⟩ | ⟨f', l', rfl, rfl, rfl⟩ | ⟨o', f', l', rfl, rfl, rfl⟩
    · exact ⟨rfl, rfl, f.one f'⟩
    · exact absurd (f.one f').symm n
    · exact absurd (f.one f').symm n
  · rcases h' with ⟨f', n', rfl, rfl⟩ | ⟨f', l', rfl, rfl, rfl⟩ | ⟨o', f', l', rfl, rfl, rfl⟩
    · exact absurd (f'.one f).symm n'
    · exact ⟨rfl, rfl, rfl⟩
    · rw [l] at l'; cases l'
  · rcases h' with ⟨f', n', rfl, rfl⟩ | ⟨f', l', rfl, rfl, rfl⟩ | ⟨o', f', l', rfl, rfl, rfl⟩
    · exact absurd (f'.one f).symm n'
    · rw [l] at l'; cases l'
    · rw [l] at l'; injection l' with l'; subst l'; exact ⟨rfl, rfl, rfl⟩

/-- a text, a version and a code are answered; nothing old has turned -/
def IsGet (R : ByteArray → Int → Int → Prop) (w : World) (e : Ending) (w' : World) : Prop := ∃ d v code, R d v code ∧ e = .returned (.tuple #[.string d, .int .i64 v, .int .i64 code]) ∧ Below w.heap.size w w'

end Go.Proofs.YthmpmagajbmpaaaGreatDoor

/- Contract of (*shelf).close: the objects of the map in the order of their keys, in new memory. -/
namespace Go.Proofs.YthmpmagajbmpaaaGreatDoor
open Go.ChangeShapes Go.WideShapes Go.ChangeAt Go.RowKit Go.Maps
set_option linter.unusedVariables false

/-- a key's bytes -/
def kb (o : GObj) : List UInt8 := o.key.data.toList

/-- the keys rise -/
def Rise (L : List GObj) : Prop := L.Pairwise (fun a b => kb a < kb b)

theorem look_mem {L : List GObj} {k : ByteArray} : (look L k).isSome = true ↔ ∃ o ∈ L, o.key = k := by
  unfold look
  rw [List.find?_isSome]
  simp

theorem Rise.nodup {L : List GObj} (h : Rise L) : (L.map kb).Nodup := by
  refine List.pairwise_map.2 (h.imp fun {a b} hab e => ?_)
  rw [e] at hab
  exact List.lt_irrefl _ hab

theorem Rise.sorted {L : List GObj} (h : Rise L) : (L.map kb).mergeSort (fun x y => decide (x ≤ y)) = L.map kb := by
  refine List.mergeSort_of_pairwise (List.pairwise_map.2 (h.imp fun {a b} hab => ?_))
  simpa using List.le_of_lt hab

theorem Rise.look {L : List GObj} (h : Rise L) {i : Nat} (hi : i < L.length) : look L L[i].key = some L[i] := by
  refine look_some hi rfl fun j hj hji e => ?_
  have := List.pairwise_iff_getElem.1 h j i hj hi hji
  unfold kb at this
  rw [e] at this
  exact List.lt_irrefl _ this

theorem keys_perm {w : World} {b n : Nat} {D : DataW Unit} {L : List GObj} (hown : w.ownsMap Tryz.prog 9 objElem b n D) (hT : Tells D (look L)) (hr : Rise L) : (L.map kb).Perm (strKeys D) := by
  obtain ⟨es, rfl, hp, _⟩ := hown.entries strKeyed
  obtain ⟨es', he, hk⟩ := hown.keysOf
  injection he with he
  subst he
  refine perm_strKeys hp (fun p hp => ?_) hr.nodup (fun x => ?_)
  · obtain ⟨v, hv⟩ := hk p hp
    obtain ⟨x, _, hx, _⟩ := Maps.keyOf_str Tryz.underlying9 hv
    exact ⟨x, hx⟩
  · have hh := hT.has ⟨x.toArray⟩
    have e : kl ⟨x.toArray⟩ = .string x := by simp [kl]
    rw [e] at hh
    rw [hh, look_mem]
    constructor
    · intro h
      obtain ⟨o, ho, rfl⟩ := List.mem_map.1 h
      exact ⟨o, ho, by simp [kb]⟩
    · rintro ⟨o, ho, hk⟩
      exact List.mem_map.2 ⟨o, ho, by simp [kb, hk]⟩

theorem keys_size {w : World} {b n : Nat} {D : DataW Unit} {L : List GObj} (hown : w.ownsMap Tryz.prog 9 objElem b n D) (hT : Tells D (look L)) (hr : Rise L) : Maps.size D = L.length := by
  have h := (keys_perm hown hT hr).length_eq
  obtain ⟨es, rfl, _⟩ := hown.entries strKeyed
  simpa [strKeys, size_eq] using h.symm

theorem sorted_keys {L : List GObj} (hr : Rise L) {D : DataW Unit} {ss : List (List UInt8)} (hp : (L.map kb).Perm (strKeys D)) (hs : ss.Perm (strKeys D)) : (ss.mergeSort (fun x y => decide (x ≤ y))).map encStr = (L.map (·.key)).flatMap sVals ∧ ss.length = L.length := by
  have e := mergeSort_of_perm (hs.trans hp.symm)
  refine ⟨?_, by have := (hs.trans hp.symm).length_eq; simpa using this⟩
  show (ss.mergeSort leB).map encStr = _
  rw [e]
  show ((L.map kb).mergeSort (fun x y => decide (x ≤ y))).map encStr = _
  rw [hr.sorted]
  clear e hp hs hr
  induction L with
  | nil => rfl
  | cons o L ih => simp only [List.map_cons, List.flatMap_cons, ih]; simp [sVals, encStr, kb]

/-- a store is answered, in new memory of its own -/
def NewSt (L : List GObj) (next : Int) (w : World) (v : Value) (w' : World) : Prop :=
  ∃ (A : Option Addr) (c : Nat), v = .agg #[.slice A L.length c, .int .i64 next] ∧ ObjsAt w' w'.heap.size A L ∧ Free w' A ∧ (∀ b, blk A = some b → w.heap.size ≤ b ∧ b < w'.heap.size) ∧ L.length ≤ c ∧ Below w.heap.size w w'

theorem infoObj : (Tryz.prog.info? 92).map (fun i => (i.zero, i.size, i.bytes)) = some (some (.agg #[.string ⟨#[]⟩, .int .i64 0, .string ⟨#[]⟩]), 3, 40) := by kernel_rfl

theorem ObjMap.look1 {w : World} {b n : Nat} {f : ByteArray → Option GObj} (h : ObjMap w b n f) {k : ByteArray} (hk : k.size ≤ maxLen) :
    (Instr.lookup 86 (.map (some b)) (.string k) false).run Tryz.prog w = .ok (.agg #[.string (orZero (f k)).key, .int .i64 (orZero (f k)).ver, .string (orZero (f k)).data]) w := by
  obtain ⟨D, hown, hat⟩ := h
  obtain ⟨u, ps, hrun, hu⟩ := hown.lookup strKeyed Tryz.underlying86 (zeroObjV w) (objElem_mk zObj) (WideMaps.keyOf_string_mk Tryz.underlying9 hk)
  have h1 := hat k (objD zObj)
  unfold kl at h1
  rw [h1] at hu
  rw [hrun]
  cases hf : f k with
  | none => rw [hf] at hu; rw [objElem_inv hu]; rfl
  | some o => rw [hf] at hu; rw [objElem_inv hu]; rfl

theorem Two.far {w : World} {b : Nat} {x y : Value} (h : Two w b x y) {p : Addr} (hp : b ≠ p.block) (u : Value) : Two (w.setCell p u) b x y :=
  ⟨(World.cell?_setCell_other w p ⟨b, 0, none⟩ u (fun e => hp (by rw [e]))).trans h.1, (World.cell?_setCell_other w p ⟨b, 1, none⟩ u (fun e => hp (by rw [e]))).trans h.2⟩

theorem Two.set0 {w : World} {b : Nat} {x y : Value} (h : Two w b x y) (u : Value) : Two (w.setCell ⟨b, 0, none⟩ u) b u y := ⟨cset_eq w b 0 u h.1, (cset_ne w b 0 1 u (by omega)).trans h.2⟩

theorem Two.set1 {w : World} {b : Nat} {x y : Value} (h : Two w b x y) (u : Value) : Two (w.setCell ⟨b, 1, none⟩ u) b x u := ⟨(cset_ne w b 1 0 u (by omega)).trans h.1, cset_eq w b 1 u h.2⟩

theorem grown_set (w : World) (p : Addr) (u : Value) : w.grownBy (w.setCell p u) (some p.block) := grown_setCell ⟨rfl, rfl, rfl, Nat.le_refl _, fun _ _ _ => rfl⟩ p (.inl rfl) u

theorem ObjMap.far {w : World} {b n : Nat} {f : ByteArray → Option GObj} (h : ObjMap w b n f) {p : Addr} (hp : b ≠ p.block) (u : Value) : ObjMap (w.setCell p u) b n f := by
  obtain ⟨D, hown, hat⟩ := h
  exact ⟨D, hown.setCell hp u, hat⟩

theorem ObjMap.under {w w' : World} {b n B : Nat} {f : ByteArray → Option GObj} (h : ObjMap w b n f) (hb : Below B w w') (hB : b < B) : ObjMap w' b n f := by
  obtain ⟨D, hown, hat⟩ := h
  obtain ⟨es, clock, h1, h2⟩ := hown
  exact ⟨D, ⟨es, clock, (hb.block b hB).trans h1, h2⟩, hat⟩

theorem OwnSl.far {α : Type} {f : α → List Value} {m : Nat} {e : TypeId} {base : Nat} {w : World} {v : Value} {xs : List α} (h : OwnSl f m e base w v xs) {p : Addr} (hp : p.block < base) (u : Value) : OwnSl f m e base (w.setCell p u) v xs :=
  h.kept (grown_set w p u) (.inr fun e => by have := (World.ownsRow.lt h _ e).1; omega)

theorem own_grow' {α : Type} {f : α → List Value} {m : Nat} {e : TypeId} {base : Nat} {wr w1 : World} {v : Value} {xs : List α} {o : Obj} (h : OwnSl f m e base wr v xs) (hg : (wr.alloc o).grownBy w1 v.ownBlock) (hB : base ≤ wr.heap.size) : wr.grownBy w1 v.ownBlock ∧ Below base wr w1 := by
  have h1 : wr.grownBy w1 v.ownBlock := grown_trans (World.grownBy_alloc wr o _) hg
  exact ⟨h1, below_of_grown h1 hB (fun g e => (World.ownsRow.lt h g e).1)⟩

theorem own_more' {e : TypeId} {base : Nat} {w : World} {v : Value} {xs : List GObj} {o : GObj} (h : w.ownsRow base e 3 v (xs.length + 1) (xs.flatMap GObj.vals ++ o.vals)) : OwnSl GObj.vals 3 e base w v (xs ++ [o]) := by
  unfold OwnSl
  rw [List.length_append, List.flatMap_append]
  simpa using h

theorem cell_obj_new (w : World) (o : GObj) (t : TypeId) : ∀ j u, o.vals[j]? = some u → (w.alloc (.cells #[.string o.key, .int .i64 o.ver, .string o.data] t)).cell? ((⟨w.heap.size, 0, none⟩ : Addr).add j) = some u := by
  intro j u hj
  match j, hj with
  | 0, hj => simp [GObj.vals] at hj; subst hj; simp [Addr.add]
  | 1, hj => simp [GObj.vals] at hj; subst hj; simp [Addr.add]
  | 2, hj => simp [GObj.vals] at hj; subst hj; simp [Addr.add]
  | j + 3, hj => simp [GObj.vals] at hj

theorem close_step {e : TypeId} {x2 k c1 c2 : Nat} {A1 A2 : Option Addr} {wr w1 : World} {o : Obj} {L : List GObj} (hlt : k < L.length) (ho : OwnSl GObj.vals 3 e x2 wr (.slice A1 k c1) (L.take k)) (hs : x2 ≤ wr.heap.size)
    (hown : w1.ownsRow x2 e 3 (.slice A2 (k + 1) c2) (k + 1) ((L.take k).flatMap GObj.vals ++ L[k].vals)) (hg : (wr.alloc o).drew.grownBy w1 (Value.slice A1 k c1).ownBlock) :
    OwnSl GObj.vals 3 e x2 w1 (.slice A2 (k + 1) c2) (L.take (k + 1)) ∧ Below x2 wr w1 := by
  have hg' : (wr.alloc o).grownBy w1 (Value.slice A1 k c1).ownBlock := ⟨hg.os, hg.tape, hg.output, hg.size, hg.block⟩
  obtain ⟨_, hb⟩ := own_grow' ho hg' hs
  have hlt2 : (L.take k).length = k := by simp; omega
  have h1 : OwnSl GObj.vals 3 e x2 w1 (.slice A2 (k + 1) c2) (L.take k ++ [L[k]]) := own_more' (by rw [hlt2]; exact hown)
  rw [← List.take_succ_eq_append_getElem hlt] at h1
  exact ⟨h1, hb⟩

set_option maxRecDepth 100000 in
set_option maxHeartbeats 1000000 in
theorem close_any (g m n : Nat) (next : Int) (L : List GObj) (w : World) (h : Shelf w g m n next (look L)) (hr : Rise L) (hl : L.length ≤ 400) (hk : ∀ o ∈ L, o.key.size ≤ maxLen) :
    Calls Tryz.prog 96 #[.pointer (some ⟨g, 0, none⟩)] w fun e w' => ∃ v, e = .returned v ∧ NewSt L next w v w' := by
  obtain ⟨tg, fg, hm, hgm, hg⟩ := h
  have hmw := hm.lt
  have FG := Lib.hid fg; clear fg
  have HM := Lib.hid hm; clear hm
  have TG := Lib.hid tg
  have HR := Lib.hid hr; clear hr
  have HK := Lib.hid hk; clear hk
  obtain ⟨tg0, tg1⟩ := tg
  go_enter Tryz.func96, Tryz.ntmps96
  go_wp2_with fail
  obtain ⟨W, hW⟩ : ∃ W, W = (w.alloc (.cells #[.slice none 0 0, .int .i64 0] 51)).alloc (.cells #[.slice none 0 0, .int .i64 next] 51) := ⟨_, rfl⟩
  have t0 : Two W w.heap.size (.slice none 0 0) (.int .i64 0) := by rw [hW]; exact (Two.new w _ _ _).alloc (by simp) _
  have t1 : Two W (w.heap.size + 1) (.slice none 0 0) (.int .i64 next) := by
    rw [hW]; have := Two.new (w.alloc (.cells #[.slice none 0 0, .int .i64 0] 51)) (.slice none 0 0) (.int .i64 next) 51
    simpa using this
  have f0 : ∀ b i, w.heap.size ≤ b → b < W.heap.size → W.frozen? ⟨b, i, none⟩ = false := fun b i h1 h2 => by
    rw [hW] at h2 ⊢
    simp at h2
    have hb : b = w.heap.size ∨ b = w.heap.size + 1 := by omega
    rcases hb with rfl | rfl
    · have := free_alloc w #[.slice none 0 0, .int .i64 0] 51 0 w.heap.size (by simp [blk]) i
      exact ((Below.refl _ _).alloc (Nat.le_refl _) _ |>.frozen (p := ⟨w.heap.size, i, none⟩) (by simp)).trans this
    · have := free_alloc (w.alloc (.cells #[.slice none 0 0, .int .i64 0] 51)) #[.slice none 0 0, .int .i64 next] 51 0 (w.heap.size + 1) (by simp [blk]) i
      exact this
  have b0 : Below w.heap.size w W := by rw [hW]; exact bal (bal (Below.refl _ _) _) _
  have s0 : W.heap.size = w.heap.size + 2 := by rw [hW]; simp
  rw [← hW]
  clear hW tg0 tg1
  have TG0 := Lib.hid (TG.out.below b0 hg); clear TG
  have HM0 := Lib.hid (HM.out.below b0); clear HM
  have FG0 := Lib.hid (show ∀ i, W.frozen? ⟨g, i, none⟩ = false from fun i => (b0.frozen hg).trans (FG.out i)); clear FG
  have T0 := Lib.hid t0; clear t0
  have T1 := Lib.hid t1; clear t1
  have F0 := Lib.hid (fun i => f0 w.heap.size i (by omega) (by omega))
  have F1 := Lib.hid (f0 (w.heap.size + 1) 0 (by omega) (by omega)); clear f0
  generalize hx : w.heap.size = x at *
  have Hx := Lib.hid hx; clear hx
  refine (callsIn_wide.1 (maps_Keys_136 (some m) W)).mono ?_
  rintro e w' ⟨rfl, rfl⟩
  go_wp2_with fail
  obtain ⟨D, hown, hT⟩ := HM0.out
  have hsz := keys_size hown hT HR.out
  have hpm := keys_perm hown hT HR.out
  have hsrt := callsIn_wide.1 (slices_Sorted_keys_135_136 m n D objElem W hown (by simp only [maxLen]; omega) (by omega))
  rw [s0] at hsrt
  refine hsrt.mono ?_
  clear hsrt
  rintro e w2 ⟨v, ss, rfl, hss, hrow, _, hb2⟩
  obtain ⟨ek, en⟩ := sorted_keys HR.out hpm hss
  rw [ek, en] at hrow
  clear hss ek en hown hT hpm hsz
  have hO : OwnSl sVals 1 9 (x + 3) w2 v (L.map (·.key)) := by
    unfold OwnSl
    rw [List.length_map]
    have e3 : (W.alloc (.cells #[.map (some m)] 86)).heap.size = x + 3 := by simp; omega
    rw [e3] at hrow
    exact hrow
  obtain ⟨ks, hks⟩ : ∃ ks, ks = L.map (·.key) := ⟨_, rfl⟩
  rw [← hks] at hO
  have hkl : ks.length = L.length := by rw [hks]; simp
  have hki : ∀ i (h : i < L.length) (h' : i < ks.length), ks[i] = L[i].key := fun i h h' => by subst hks; simp
  have HKI := Lib.hid hki; clear hki hks
  obtain ⟨Ak, ck, rfl⟩ := hO.form
  obtain ⟨hst, _, hbk, hck⟩ := OwnSl.sl hO sVals_length
  clear hO hrow
  have bb2 : Below (x + 2) W w2 := by
    have h3 : Below (x + 2) W (W.alloc (.cells #[.map (some m)] 86)) := (Below.refl _ _).alloc (by omega) _
    exact h3.trans (hb2.mono (by simp; omega))
  have s2 : x + 3 ≤ w2.heap.size := by have := hb2.size; simp at this; omega
  have TG2 := Lib.hid (TG0.out.below bb2 (by omega)); clear TG0
  have HM2 := Lib.hid (show ObjMap w2 m n (look L) from HM0.out.grown (grown_of_below (by rw [s0]; exact bb2) none) (by simp)); clear HM0
  have T02 := Lib.hid (T0.out.below bb2 (by omega)); clear T0
  have T12 := Lib.hid (T1.out.below bb2 (by omega)); clear T1
  have F02 := Lib.hid (fun i => (bb2.frozen (p := ⟨x, i, none⟩) (by show x < x + 2; omega)).trans (F0.out i)); clear F0
  have F12 := Lib.hid ((bb2.frozen (p := ⟨x + 1, 0, none⟩) (by show x + 1 < x + 2; omega)).trans F1.out); clear F1
  have b2 : Below x w w2 := b0.trans (bb2.mono (by omega))
  have HS2 := Lib.hid hst; clear hst
  have HBK := Lib.hid hbk; clear hbk
  clear hb2 bb2 b0 FG0
  generalize hx2 : w2.heap.size = x2 at *
  obtain ⟨i0, hi0, hz0, hz1, hz2⟩ := info_parts infoObj
  have HI0 := Lib.hid hi0; clear hi0
  have HZ0 := Lib.hid hz0; clear hz0
  have HZ1 := Lib.hid hz1; clear hz1
  have HZ2 := Lib.hid hz2; clear hz2
  go_wp2_with fail
  go_loopw [18] (fun i wr => ∃ (k : Nat) (A1 : Option Addr) (c1 : Nat), k ≤ L.length ∧ i = .int .i64 k ∧ Hid (Two wr (x + 1) (.slice A1 k c1) (.int .i64 next)) ∧ Hid (OwnSl GObj.vals 3 92 x2 wr (.slice A1 k c1) (L.take k)) ∧ Hid (Two wr g (.map (some m)) (.int .i64 next)) ∧ Hid (ObjMap wr m n (look L)) ∧ Hid (Two wr x (.slice none 0 0) (.int .i64 0)) ∧ Hid (∀ i, wr.frozen? ⟨x, i, none⟩ = false) ∧ Hid (wr.frozen? ⟨x + 1, 0, none⟩ = false) ∧ Hid (StrsAt wr x2 Ak ks) ∧ x2 ≤ wr.heap.size ∧ Below x w wr) (fun i _ => L.length - (intOf i).toNat)
  case atStart => exact ⟨0, none, 0, by omega, rfl, T12, Lib.hid (World.ownsRow_nil _ _ _ _), TG2, HM2, T02, F02, F12, HS2, by omega, b2⟩
  case round =>
    clear T12 TG2 HM2 T02 F02 F12 HS2 b2 hx2
    obtain ⟨k, A1, c1, hk, rfl, HT1, HO1, HTG, HMM, HT0, HF0, HF1, HSS, hs, hb⟩ := hrel
    by_cases hlt : k < L.length
    · obtain ⟨b, off, rfl, hbB, p0⟩ := StrsAt.at_ HSS.out (show k < ks.length by omega)
      rw [HKI.out k hlt (by omega)] at p0
      have hlk : look L L[k].key = some L[k] := HR.out.look hlt
      have hkey : L[k].key.size ≤ maxLen := HK.out _ (List.getElem_mem hlt)
      have hmd : ObjMap wr.drew m n (look L) := by obtain ⟨D, hD, hT⟩ := HMM.out; exact ⟨D, hD.drew, hT⟩
      have hm1 := hmd.look1 hkey
      clear hmd
      rw [hlk] at hm1
      simp only [orZero] at hm1
      clear hlk
      have Hkey := Lib.hid hkey; clear hkey
      obtain ⟨t10, t11⟩ := HT1.out
      obtain ⟨g0, g1⟩ := HTG.out
      go_wp2_with fail
      have hlt2 : (L.take k).length = k := by simp; omega
      have HO2 : wr.drew.ownsRow x2 92 3 (.slice A1 k c1) k ((L.take k).flatMap GObj.vals) := by have := HO1.out; unfold OwnSl at this; rw [hlt2] at this; exact this
      have HO3 := Lib.hid HO2; clear HO2 hlt2
      have hx1 : x + 1 < wr.heap.size := by omega
      go_region_law (refine step_append_lies _ rfl _ _ 49 rfl x2 92 i0 _ 3 40 Tryz.underlying49 HI0.out HZ0.out HZ1.out HZ2.out rfl (by omega) (.slice A1 k c1) k ((L.take k).flatMap GObj.vals) rfl (World.ownsRow.alloc HO3.out _) ⟨wr.heap.size, 0, none⟩ 1 1 L[k].vals rfl rfl (cell_obj_new _ _ _) (by simp [GObj.vals, Value.oneCell']) (by omega) (by simp only [maxLen]; omega) (by omega) (by simp; omega) (wr.heap.size + 1) (by simp) ?_; intro g2 c2 w1 hown' hgrow hloc hlt'; obtain ⟨hO2, hb1⟩ := close_step hlt HO1.out hs hown' hgrow; have HO4 := Lib.hid hO2; clear hO2 hown' hgrow hloc hlt' HO3; have u10 := (hb1.cell (p := ⟨x + 1, 0, none⟩) (by show x + 1 < x2; omega)).trans t10; have uf := (hb1.frozen (p := ⟨x + 1, 0, none⟩) (by show x + 1 < x2; omega)).trans HF1.out; clear hm1 t10 t11 g0 g1 p0)
      all_goals
        have HT1' := Lib.hid ((HT1.out.below hb1 (by omega)).set0 (.slice (some ⟨g2, 0, none⟩) (k + 1) c2))
        have HO5 := Lib.hid (HO4.out.far (p := ⟨x + 1, 0, none⟩) (by show x + 1 < x2; omega) (.slice (some ⟨g2, 0, none⟩) (k + 1) c2))
        have HTG' := Lib.hid ((HTG.out.below hb1 (by omega)).far (p := ⟨x + 1, 0, none⟩) (by show g ≠ x + 1; omega) (.slice (some ⟨g2, 0, none⟩) (k + 1) c2))
        have HMM' := Lib.hid ((HMM.out.under hb1 (by omega)).far (p := ⟨x + 1, 0, none⟩) (by show m ≠ x + 1; omega) (.slice (some ⟨g2, 0, none⟩) (k + 1) c2))
        have HT0' := Lib.hid ((HT0.out.below hb1 (by omega)).far (p := ⟨x + 1, 0, none⟩) (by show x ≠ x + 1; omega) (.slice (some ⟨g2, 0, none⟩) (k + 1) c2))
        have HF0' := Lib.hid (fun i => (frozen_setCell w1 ⟨x + 1, 0, none⟩ (.slice (some ⟨g2, 0, none⟩) (k + 1) c2) ⟨x, i, none⟩).trans ((hb1.frozen (p := ⟨x, i, none⟩) (by show x < x2; omega)).trans (HF0.out i)))
        have HF1' := Lib.hid ((frozen_setCell w1 ⟨x + 1, 0, none⟩ (.slice (some ⟨g2, 0, none⟩) (k + 1) c2) ⟨x + 1, 0, none⟩).trans uf)
        have HSS' := Lib.hid ((Sl.below HSS.out hb1 (Nat.le_refl _)).far (p := ⟨x + 1, 0, none⟩) (fun b' e => by have := (HBK.out b' e).1; show b' ≠ x + 1; omega) (.slice (some ⟨g2, 0, none⟩) (k + 1) c2))
        have hs' : x2 ≤ (w1.setCell ⟨x + 1, 0, none⟩ (.slice (some ⟨g2, 0, none⟩) (k + 1) c2)).heap.size := by rw [size_setCell]; exact Nat.le_trans hs hb1.size
        have hb' : Below x w (w1.setCell ⟨x + 1, 0, none⟩ (.slice (some ⟨g2, 0, none⟩) (k + 1) c2)) := (hb.trans (hb1.mono (by omega))).setCell (by show x ≤ x + 1; omega) _
        clear HT1 HO4 HTG HMM HT0 HF0 HF1 HSS hs hb hb1 u10 uf HO1
        generalize w1.setCell ⟨x + 1, 0, none⟩ (.slice (some ⟨g2, 0, none⟩) (k + 1) c2) = ws at *
        go_wp2
        go_roundw
        case rel => exact ⟨k + 1, _, c2, by omega, by go_num, HT1', HO5, HTG', HMM', HT0', HF0', HF1', HSS', hs', hb'⟩
        case measure => simp [intOf]; omega
    · obtain rfl : k = L.length := by omega
      obtain ⟨t10, t11⟩ := HT1.out
      obtain ⟨z0, z1⟩ := HT0.out
      have f0 := HF0.out 0
      have f1 := HF0.out 1
      go_wp2
      have tF := ((HT0.out.set0 (.slice A1 L.length c1)).set1 (.int .i64 next))
      have hOF : OwnSl GObj.vals 3 92 x2 ((wr.setCell ⟨x, 0, none⟩ (.slice A1 L.length c1)).setCell ⟨x, 1, none⟩ (.int .i64 next)) (.slice A1 L.length c1) L := by
        have h1 := HO1.out
        rw [List.take_length] at h1
        exact (h1.far (p := ⟨x, 0, none⟩) (by show x < x2; omega) _).far (p := ⟨x, 1, none⟩) (by show x < x2; omega) _
      have bF : Below x w ((wr.setCell ⟨x, 0, none⟩ (.slice A1 L.length c1)).setCell ⟨x, 1, none⟩ (.int .i64 next)) := (hb.setCell (p := ⟨x, 0, none⟩) (Nat.le_refl _) _).setCell (p := ⟨x, 1, none⟩) (Nat.le_refl _) _
      obtain ⟨hsl, hfr, hbl, hc⟩ := OwnSl.sl hOF vals_length
      clear t10 t11 z0 z1 f0 f1 hOF
      generalize (wr.setCell ⟨x, 0, none⟩ (.slice A1 L.length c1)).setCell ⟨x, 1, none⟩ (.int .i64 next) = wF at *
      obtain ⟨z0, z1⟩ := tF
      refine bodyPost_ret (v := .agg #[.slice A1 L.length c1, .int .i64 next]) (by simp [results, Tryz.results96, go_sem, z0, z1]) rfl ⟨_, rfl, A1, c1, rfl, hsl, hfr, ?_, hc, ?_⟩
      · rw [Hx.out]
        exact fun b e => ⟨by have := (hbl b e).1; omega, (hbl b e).2⟩
      · rw [Hx.out]
        exact bF

end Go.Proofs.YthmpmagajbmpaaaGreatDoor

/- Lists of objects in the order of their keys: one set, one struck. No Go text is walked here. -/
namespace Go.Proofs.YthmpmagajbmpaaaGreatDoor
open Go.ChangeShapes Go.WideShapes Go.ChangeAt Go.RowKit Go.Maps
set_option linter.unusedVariables false

/-- one object set in its place -/
def setL : List GObj → GObj → List GObj
  | [], o => [o]
  | x :: xs, o => if kb x < kb o then x :: setL xs o else if x.key = o.key then o :: xs else o :: x :: xs

/-- one key struck -/
def delL (xs : List GObj) (key : ByteArray) : List GObj := xs.filter fun x => decide (x.key ≠ key)

theorem kb_inj {a b : GObj} (h : kb a = kb b) : a.key = b.key := bytes_inj h

theorem kb_gt {a b : GObj} (h : ¬ kb a < kb b) (hn : a.key ≠ b.key) : kb b < kb a := by
  have h1 : kb b ≤ kb a := List.not_lt.1 h
  rcases List.le_iff_lt_or_eq.1 h1 with h2 | h2
  · exact h2
  · exact absurd (kb_inj h2).symm hn

theorem setL_mem {o p : GObj} : ∀ {xs : List GObj}, p ∈ setL xs o → p = o ∨ p ∈ xs
  | [], h => by simp [setL] at h; exact .inl h
  | x :: xs, h => by
    unfold setL at h
    split at h
    · rcases List.mem_cons.1 h with rfl | h
      · exact .inr (List.mem_cons_self)
      · rcases setL_mem h with h | h
        · exact .inl h
        · exact .inr (List.mem_cons_of_mem _ h)
    · split at h
      · rcases List.mem_cons.1 h with rfl | h
        · exact .inl rfl
        · exact .inr (List.mem_cons_of_mem _ h)
      · rcases List.mem_cons.1 h with rfl | h
        · exact .inl rfl
        · exact .inr h

theorem setL_rise {o : GObj} : ∀ {xs : List GObj}, Rise xs → Rise (setL xs o)
  | [], _ => List.pairwise_singleton _ _
  | x :: xs, h => by
    obtain ⟨h1, h2⟩ := List.pairwise_cons.1 h
    unfold setL
    split
    · rename_i hlt
      refine List.pairwise_cons.2 ⟨fun p hp => ?_, setL_rise h2⟩
      rcases setL_mem hp with rfl | hp
      · exact hlt
      · exact h1 p hp
    · rename_i hlt
      split
      · rename_i he
        refine List.pairwise_cons.2 ⟨fun p hp => ?_, h2⟩
        have := h1 p hp
        unfold kb at *
        rw [← he]
        exact this
      · rename_i hne
        have hgt := kb_gt hlt hne
        refine List.pairwise_cons.2 ⟨fun p hp => ?_, h⟩
        rcases List.mem_cons.1 hp with rfl | hp
        · exact hgt
        · exact List.lt_trans hgt (h1 p hp)

theorem look_cons (x : GObj) (xs : List GObj) (k : ByteArray) : look (x :: xs) k = if x.key = k then some x else look xs k := by
  unfold look
  rw [List.find?_cons]
  by_cases h : x.key = k <;> simp [h]

theorem setL_look {o : GObj} (k : ByteArray) : ∀ (xs : List GObj), look (setL xs o) k = if k = o.key then some o else look xs k
  | [] => by
    unfold setL
    rw [look_cons]
    by_cases h : o.key = k
    · simp [h]
    · have h' : ¬ k = o.key := fun e => h e.symm
      simp [h, h']
  | x :: xs => by
    unfold setL
    split
    · rename_i hlt
      rw [look_cons, setL_look k xs, look_cons]
      by_cases h : x.key = k
      · have : k ≠ o.key := by
          rintro rfl
          have e : kb x = kb o := by unfold kb; rw [h]
          rw [e] at hlt
          exact List.lt_irrefl _ hlt
        simp [h, this]
      · simp [h]
    · split
      · rename_i he
        rw [look_cons, look_cons, he]
        by_cases h : o.key = k
        · simp [h]
        · have h' : ¬ k = o.key := fun e => h e.symm
          simp [h, h']
      · rw [look_cons]
        by_cases h : o.key = k
        · simp [h]
        · have h' : ¬ k = o.key := fun e => h e.symm
          simp [h, h']

theorem setL_len (o : GObj) : ∀ (xs : List GObj), (setL xs o).length ≤ xs.length + 1
  | [] => by simp [setL]
  | x :: xs => by
    have := setL_len o xs
    unfold setL
    split
    · simp; omega
    · split <;> simp

theorem setL_at (o : GObj) : ∀ (xs : List GObj) (k : Nat) (hk : k ≤ xs.length) (h1 : ∀ j (h : j < xs.length), j < k → kb xs[j] < kb o) (h2 : ∀ h : k < xs.length, ¬ kb xs[k] < kb o),
    (∀ h : k < xs.length, xs[k].key = o.key → setL xs o = xs.take k ++ [o] ++ xs.drop (k + 1)) ∧ ((∀ h : k < xs.length, xs[k].key ≠ o.key) → setL xs o = xs.take k ++ [o] ++ xs.drop k)
  | [], k, hk, _, _ => ⟨fun h => by simp at h, fun _ => by simp [setL]⟩
  | x :: xs, 0, _, _, h2 => by
    have h0 : ¬ kb x < kb o := h2 (by simp)
    refine ⟨fun _ he => ?_, fun hn => ?_⟩
    · have he' : x.key = o.key := he
      unfold setL
      simp [h0, he']
    · have hn' : x.key ≠ o.key := hn (by simp)
      unfold setL
      simp [h0, hn']
  | x :: xs, k + 1, hk, h1, h2 => by
    have h0 : kb x < kb o := h1 0 (by simp) (by omega)
    have ih := setL_at o xs k (by simpa using hk) (fun j hj hjk => h1 (j + 1) (by simpa using hj) (by omega)) (fun h => h2 (by simpa using h))
    refine ⟨fun h he => ?_, fun hn => ?_⟩
    · unfold setL
      simp only [h0, if_true]
      rw [ih.1 (by simpa using h) he]
      simp
    · unfold setL
      simp only [h0, if_true]
      rw [ih.2 (fun h => hn (by simpa using h))]
      simp

theorem delL_rise {xs : List GObj} (h : Rise xs) (key : ByteArray) : Rise (delL xs key) := List.Pairwise.filter _ h

theorem delL_look (key k : ByteArray) : ∀ (xs : List GObj), look (delL xs key) k = if k = key then none else look xs k
  | [] => by simp [delL, look]
  | x :: xs => by
    have ih := delL_look key k xs
    unfold delL at *
    by_cases h : x.key = key
    · rw [List.filter_cons_of_neg (by simpa using h), ih, look_cons]
      by_cases hk : k = key
      · simp [hk]
      · have : ¬ x.key = k := fun e => hk (e.symm.trans h)
        simp [hk, this]
    · rw [List.filter_cons_of_pos (by simpa using h), look_cons, look_cons, ih]
      by_cases hk : k = key
      · subst hk
        simp [h]
      · simp [hk]

theorem delL_len (xs : List GObj) (key : ByteArray) : (delL xs key).length ≤ xs.length := List.length_filter_le _ _

theorem delL_none (key : ByteArray) : ∀ (xs : List GObj), (∀ p ∈ xs, p.key ≠ key) → delL xs key = xs := fun xs h => by
  unfold delL
  rw [List.filter_eq_self]
  intro p hp
  simpa using h p hp

theorem delL_at (key : ByteArray) : ∀ (xs : List GObj), Rise xs → ∀ (i : Nat) (hi : i < xs.length), xs[i].key = key → delL xs key = xs.take i ++ xs.drop (i + 1)
  | [], _, i, hi, _ => by simp at hi
  | x :: xs, hr, 0, _, he => by
    obtain ⟨h1, h2⟩ := List.pairwise_cons.1 hr
    have he' : x.key = key := he
    have hn : delL xs key = xs := delL_none key xs fun p hp e => by
      have := h1 p hp
      unfold kb at this
      rw [e, he'] at this
      exact List.lt_irrefl _ this
    unfold delL at *
    rw [List.filter_cons_of_neg (by simpa using he'), hn]
    simp
  | x :: xs, hr, i + 1, hi, he => by
    obtain ⟨h1, h2⟩ := List.pairwise_cons.1 hr
    have hi' : i < xs.length := by simpa using hi
    have he' : xs[i].key = key := by simpa using he
    have ih := delL_at key xs h2 i hi' he'
    have hx : x.key ≠ key := fun e => by
      have := h1 xs[i] (List.getElem_mem hi')
      unfold kb at this
      rw [e, he'] at this
      exact List.lt_irrefl _ this
    unfold delL at *
    rw [List.filter_cons_of_pos (by simpa using hx), ih]
    simp

theorem rise_of_store {xs : List GObj} {next : Int} (hs : StoreP xs next) : Rise xs := by
  refine List.pairwise_iff_getElem.2 fun i j hi hj hij => ?_
  have h := key_lt hs (j - i - 1) i (by omega)
  have e2 : i + (j - i - 1) + 1 = j := by omega
  simp only [e2] at h
  exact h

end Go.Proofs.YthmpmagajbmpaaaGreatDoor

/- The law on append of objects to a slice of the call's own; contract of the model's l01Own. -/
namespace Go.Proofs.YthmpmagajbmpaaaGreatDoor
open Go.ChangeShapes Go.WideShapes Go.ChangeAt Go.RowKit Go.Maps
set_option linter.unusedVariables false

theorem run_append_nil {P : Program} {w : World} (base c : Nat) (t ty e : TypeId) (i : TypeInfo) (size : Nat) (ht : P.underlying t = some (.slice e)) (hi : P.info? e = some i)
    (v : Value) (n : Nat) (xs : List Value) (hown : w.ownsRow base e size v n xs) : (Builtin.append_ #[t, t] ty #[v, .slice none 0 c]).run P w = .ok v w := by
  rcases hown.2 with ⟨rfl, rfl⟩ | ⟨g, cap, cur, rfl, _, _, hnc, _⟩
  · simp [Builtin.append_, run_underlying ht, sizeOf, typeInfo, hi, Builtin.lenOf, Builtin.firstCells]
  · simp [Builtin.append_, run_underlying ht, sizeOf, typeInfo, hi, Builtin.lenOf, Builtin.firstCells, hnc, storeCells]

theorem flat_cells {w : World} {b off : Nat} {ys : List GObj} (h : ∀ k (h : k < ys.length), Cells w b (off + k * 3) ys[k].vals) : ∀ j u, (ys.flatMap GObj.vals)[j]? = some u → w.cell? ((⟨b, off, none⟩ : Addr).add j) = some u := by
  intro j u hj
  have hlen : (ys.flatMap GObj.vals).length = ys.length * 3 := flat_length GObj.vals 3 vals_length ys
  have hjl : j < ys.length * 3 := by rw [← hlen]; exact (List.getElem?_eq_some_iff.1 hj).1
  have hk : j / 3 < ys.length := by omega
  have h1 := flat_at GObj.vals 3 vals_length ys (j / 3) hk (j % 3) (by omega)
  rw [show j / 3 * 3 + j % 3 = j by omega, hj] at h1
  have h2 := h (j / 3) hk (j % 3) u h1.symm
  have e : (⟨b, off, none⟩ : Addr).add j = ⟨b, off + j, none⟩ := by simp [Addr.add]
  rw [e, show off + j = off + j / 3 * 3 + j % 3 by omega]
  exact h2

theorem wpList_append_objs {w : World} {ops : Array Oper} {rest : List Oper} {o : Oper} {a : Act} {Q : Exit → Act → World → Prop} (hgd : o.guard = none) (s x : Operand)
    (ho : o.op = .call { callee := .builtin .append, args := #[s, x], argTypes := #[49, 49] })
    (base : Nat) (xs ys : List GObj) (v : Value) (hs : a.eval s = v) (hown : OwnSl GObj.vals 3 92 base w v xs) (A : Option Addr) (c B : Nat) (hx : a.eval x = .slice A ys.length c) (hys : ObjsAt w B A ys)
    (hl : xs.length + ys.length ≤ 1000000000) (hbase : base ≤ w.heap.size)
    (h : ∀ v' w', OwnSl GObj.vals 3 92 base w' v' (xs ++ ys) → w.grownBy w' v.ownBlock → wpList Tryz.prog ops Q rest (a.put o.dst v') w') : wpList Tryz.prog ops Q (o :: rest) a w := by
  obtain ⟨i0, hi0, hz0, hz1, hz2⟩ := info_parts infoObj
  have key : ∀ (b off : Nat), A = some ⟨b, off, none⟩ → (∀ k (h : k < ys.length), Cells w b (off + k * 3) ys[k].vals) → wpList Tryz.prog ops Q (o :: rest) a w := by
    rintro b off rfl hc
    refine wpList_append_own_at _ hgd s x 49 ho base 92 i0 _ 3 40 Tryz.underlying49 hi0 hz0 hz1 hz2 rfl (by omega) v xs.length (xs.flatMap GObj.vals) hs hown ⟨b, off, none⟩ ys.length c (ys.flatMap GObj.vals) hx (flat_length GObj.vals 3 vals_length ys) (flat_cells hc) ?_ (by simp only [maxLen]; omega) (by omega) hbase ?_
    · intro u hu
      obtain ⟨o, _, hu⟩ := List.mem_flatMap.1 hu
      simp [GObj.vals] at hu
      rcases hu with rfl | rfl | rfl <;> rfl
    · intro v' w' h1 h2 _ _
      refine h v' w' ?_ h2
      unfold OwnSl
      rw [List.length_append, List.flatMap_append]
      exact h1
  by_cases hy : ys = []
  · subst hy
    have hrun := fun ty => run_append_nil (P := Tryz.prog) (w := w) base c 49 ty 92 i0 3 Tryz.underlying49 hi0 v xs.length (xs.flatMap GObj.vals) hown
    cases A with
    | none =>
      refine wpList_plain hgd fun K hK => ?_
      unfold Oper.wp
      simp only [List.length_nil] at hx
      simp [execOp, ho, resolve, invoke, builtin, hs, hx, hrun, Result.andThen]
      exact hK _ _ (h v w (by rw [List.append_nil]; exact hown) ⟨rfl, rfl, rfl, Nat.le_refl _, fun _ _ _ => rfl⟩)
    | some ad =>
      refine wpList_append_own_at _ hgd s x 49 ho base 92 i0 _ 3 40 Tryz.underlying49 hi0 hz0 hz1 hz2 rfl (by omega) v xs.length (xs.flatMap GObj.vals) hs hown ad 0 c [] hx rfl (by simp) (by simp) (by simp only [maxLen]; simp at hl; omega) (by simp at hl; omega) hbase ?_
      intro v' w' h1 h2 _ _
      refine h v' w' ?_ h2
      rw [List.append_nil]
      unfold OwnSl
      simpa using h1
  · obtain ⟨b, off, e, _, hc⟩ := hys hy
    exact key b off e hc

set_option maxRecDepth 100000 in
theorem own_any (A : Option Addr) (c : Nat) (next : Int) (xs : List GObj) (B : Nat) (w : World) (h : ObjsAt w B A xs) (hB : B ≤ w.heap.size) (hl : xs.length ≤ 400) :
    Calls Tryz.prog 58 #[.agg #[.slice A xs.length c, .int .i64 next]] w fun e w' => ∃ v, e = .returned v ∧ NewSt xs next w v w' := by
  have H := Lib.hid h; clear h
  obtain ⟨W, hW⟩ : ∃ W, W = ((w.alloc (.cells #[.slice A xs.length c, .int .i64 next] 51)).alloc (.cells #[.slice none 0 0, .int .i64 0] 51)).alloc (.cells #[] 92) := ⟨_, rfl⟩
  have t0 : Two W w.heap.size (.slice A xs.length c) (.int .i64 next) := by rw [hW]; exact ((Two.new w _ _ _).alloc (by simp) _).alloc (by simp; omega) _
  have t1 : Two W (w.heap.size + 1) (.slice none 0 0) (.int .i64 0) := by
    rw [hW]
    have := (Two.new (w.alloc (.cells #[.slice A xs.length c, .int .i64 next] 51)) (.slice none 0 0) (.int .i64 0) 51).alloc (by simp) (.cells #[] 92)
    simpa using this
  have f0 : ∀ b i, w.heap.size ≤ b → b < w.heap.size + 2 → W.frozen? ⟨b, i, none⟩ = false := fun b i h1 h2 => by
    rw [hW]
    have hb : b = w.heap.size ∨ b = w.heap.size + 1 := by omega
    rcases hb with rfl | rfl
    · have := free_alloc w #[.slice A xs.length c, .int .i64 next] 51 0 w.heap.size (by simp [blk]) i
      exact (((Below.refl _ _).alloc (Nat.le_refl _) _ |>.alloc (by simp) _).frozen (p := ⟨w.heap.size, i, none⟩) (by simp)).trans this
    · have := free_alloc (w.alloc (.cells #[.slice A xs.length c, .int .i64 next] 51)) #[.slice none 0 0, .int .i64 0] 51 0 (w.heap.size + 1) (by simp [blk]) i
      exact (((Below.refl _ _).alloc (Nat.le_refl _) _).frozen (p := ⟨w.heap.size + 1, i, none⟩) (by simp)).trans this
  have b0 : Below w.heap.size w W := by rw [hW]; exact bal (bal (bal (Below.refl _ _) _) _) _
  have s0 : W.heap.size = w.heap.size + 3 := by rw [hW]; simp
  have o0 : OwnSl GObj.vals 3 92 (w.heap.size + 2) W (.slice (some ⟨w.heap.size + 1 + 1, 0, none⟩) 0 0) [] := by
    rw [hW]
    have := World.ownsRow_lit (base := w.heap.size + 2) (e := 92) (size := 3) ((w.alloc (.cells #[.slice A xs.length c, .int .i64 next] 51)).alloc (.cells #[.slice none 0 0, .int .i64 0] 51)) #[] 0 (by simp) (by simp [maxLen]) (by simp)
    simpa [OwnSl] using this
  have T0 := Lib.hid t0; clear t0
  have T1 := Lib.hid t1; clear t1
  have F0 := Lib.hid f0; clear f0
  have O0 := Lib.hid o0; clear o0
  have HW := Lib.hid hW; clear hW
  go_enter Tryz.func58, Tryz.ntmps58
  go_wp2_with (at_builtin; rw [← HW.out]; refine wpList_append_objs rfl _ _ rfl (w.heap.size + 2) [] xs (.slice (some ⟨w.heap.size + 1 + 1, 0, none⟩) 0 0) rfl O0.out A c B rfl (Sl.below H.out b0 hB) (by simp; omega) (by omega) ?_; intro v' w1 hO hg; rw [List.nil_append] at hO; obtain ⟨A', c', rfl⟩ := hO.form; have HO := Lib.hid hO; clear hO; have hb1 : Below (w.heap.size + 2) W w1 := below_of_grown hg (by omega) (fun g e => (World.ownsRow.lt O0.out g e).1); clear hg; obtain ⟨t00, t01⟩ := T0.out.below hb1 (by omega); obtain ⟨t10, t11⟩ := T1.out.below hb1 (by omega); have f00 := (hb1.frozen (p := ⟨w.heap.size, 0, none⟩) (by show w.heap.size < w.heap.size + 2; omega)).trans (F0.out _ 0 (by omega) (by omega)); have f10 := (hb1.frozen (p := ⟨w.heap.size + 1, 0, none⟩) (by show w.heap.size + 1 < w.heap.size + 2; omega)).trans (F0.out _ 0 (by omega) (by omega)); have f11 := (hb1.frozen (p := ⟨w.heap.size + 1, 1, none⟩) (by show w.heap.size + 1 < w.heap.size + 2; omega)).trans (F0.out _ 1 (by omega) (by omega)))
  have tF := (((T1.out.below hb1 (by omega)).far (p := ⟨w.heap.size, 0, none⟩) (by show w.heap.size + 1 ≠ w.heap.size; omega) (.slice A' xs.length c')).set0 (.slice A' xs.length c')).set1 (.int .i64 next)
  have hOF := ((HO.out.far (p := ⟨w.heap.size, 0, none⟩) (by show w.heap.size < w.heap.size + 2; omega) (.slice A' xs.length c')).far (p := ⟨w.heap.size + 1, 0, none⟩) (by show w.heap.size + 1 < w.heap.size + 2; omega) (.slice A' xs.length c')).far (p := ⟨w.heap.size + 1, 1, none⟩) (by show w.heap.size + 1 < w.heap.size + 2; omega) (.int .i64 next)
  have bF := (((b0.trans (hb1.mono (by omega))).setCell (p := ⟨w.heap.size, 0, none⟩) (by show w.heap.size ≤ w.heap.size; omega) (.slice A' xs.length c')).setCell (p := ⟨w.heap.size + 1, 0, none⟩) (by show w.heap.size ≤ w.heap.size + 1; omega) (.slice A' xs.length c')).setCell (p := ⟨w.heap.size + 1, 1, none⟩) (by show w.heap.size ≤ w.heap.size + 1; omega) (.int .i64 next)
  obtain ⟨hsl, hfr, hbl, hc⟩ := OwnSl.sl hOF vals_length
  clear t00 t01 t10 t11 f00 f10 f11 hOF
  generalize ((w1.setCell ⟨w.heap.size, 0, none⟩ (.slice A' xs.length c')).setCell ⟨w.heap.size + 1, 0, none⟩ (.slice A' xs.length c')).setCell ⟨w.heap.size + 1, 1, none⟩ (.int .i64 next) = wF at *
  obtain ⟨z0, z1⟩ := tF
  exact bodyPost_ret (v := .agg #[.slice A' xs.length c', .int .i64 next]) (by simp [results, Tryz.results58, go_sem, z0, z1]) rfl ⟨_, rfl, A', c', rfl, hsl, hfr, fun b e => ⟨by have := (hbl b e).1; omega, (hbl b e).2⟩, hc, bF⟩

end Go.Proofs.YthmpmagajbmpaaaGreatDoor

/- Contracts of the shelf's versionFault and put, and of delete on its map. -/
namespace Go.Proofs.YthmpmagajbmpaaaGreatDoor
open Go.ChangeShapes Go.WideShapes Go.ChangeAt Go.RowKit Go.Maps
set_option linter.unusedVariables false

theorem Shelf.under {w w' : World} {g m n B : Nat} {next : Int} {f : ByteArray → Option GObj} (h : Shelf w g m n next f) (hb : Below B w w') (hg : g < B) (hm : m < B) : Shelf w' g m n next f :=
  ⟨h.1.below hb hg, fun i => (hb.frozen (p := ⟨g, i, none⟩) hg).trans (h.2.1 i), h.2.2.1.under hb hm, h.2.2.2.1, Nat.lt_of_lt_of_le h.2.2.2.2 hb.size⟩

theorem Shelf.below {w w' : World} {g m n : Nat} {next : Int} {f : ByteArray → Option GObj} (h : Shelf w g m n next f) (hb : Below w.heap.size w w') : Shelf w' g m n next f :=
  h.under hb h.2.2.2.2 h.2.2.1.lt

/-- what versionFault finds -/
def VerP (L : List GObj) (key : ByteArray) (ver code : Int) : Prop :=
  (look L key = none ∧ code = 5) ∨ (∃ o, look L key = some o ∧ o.ver ≠ ver ∧ code = 10) ∨ (∃ o, look L key = some o ∧ o.ver = ver ∧ code = 0)

/-- what put answers, and what is on the shelf then -/
def PutP (L : List GObj) (next : Int) (key data : ByteArray) (ver code : Int) (L' : List GObj) (next' : Int) : Prop :=
  (600 < data.size ∧ ver = 0 ∧ code = 8 ∧ L' = L ∧ next' = next) ∨
  (¬ 600 < data.size ∧ ((look L key = none ∧ 300 ≤ L.length) ∨ 1000000000 ≤ next) ∧ ver = 0 ∧ code = 7 ∧ L' = L ∧ next' = next) ∨
  (¬ 600 < data.size ∧ ¬ ((look L key = none ∧ 300 ≤ L.length) ∨ 1000000000 ≤ next) ∧ ver = next ∧ code = 0 ∧ L' = setL L ⟨key, next, data⟩ ∧ next' = next + 1)

/-- what put leaves -/
def PutEnd (g m n : Nat) (L : List GObj) (next : Int) (key data : ByteArray) (w : World) (e : Ending) (w' : World) : Prop :=
  ∃ ver code L' next', PutP L next key data ver code L' next' ∧ e = .returned (.tuple #[.int .i64 ver, .int .i64 code]) ∧ Shelf w' g m (n + 1) next' (look L') ∧ ∀ B, B ≤ g → B ≤ m → B ≤ w.heap.size → Below B w w'

theorem Shelf.more {w : World} {g m n : Nat} {next : Int} {f : ByteArray → Option GObj} (h : Shelf w g m n next f) : Shelf w g m (n + 1) next f := by
  obtain ⟨h1, h2, ⟨D, hD, hT⟩, h4⟩ := h
  exact ⟨h1, h2, ⟨D, hD.mono (by omega), hT⟩, h4⟩

set_option maxRecDepth 100000 in
set_option maxHeartbeats 1000000 in
theorem put_any (g m n : Nat) (next : Int) (L : List GObj) (key data : ByteArray) (w : World) (h : Shelf w g m n next (look L)) (hr : Rise L) (hn : n < 1000) (hk : key.size ≤ maxLen) (hd : data.size ≤ maxLen) (hnx : 0 ≤ next ∧ next ≤ 1000000000) :
    Calls Tryz.prog 97 #[.pointer (some ⟨g, 0, none⟩), .string key, .string data] w (PutEnd g m n L next key data w) := by
  have HS := Lib.hid h
  obtain ⟨⟨tg0, tg1⟩, hfz, hm, hgm, hg⟩ := h
  have hlk := hm.look hk
  have hmw := hm.lt
  obtain ⟨D, hown, hT⟩ := hm
  have hlen : ∀ o, (Builtin.len_ #[86] 3 #[.map (some m)]).run Tryz.prog (w.alloc o) = .ok (.int .i64 L.length) (w.alloc o) := fun o => by
    have h1 := (hown.alloc o).len Tryz.underlying86 3
    rw [keys_size hown hT hr] at h1
    exact h1
  clear hown hT
  have hf1 := hfz 1
  clear hfz
  have hun : ∀ o ver code, PutP L next key data ver code L next → PutEnd g m n L next key data w (.returned (.tuple #[.int .i64 ver, .int .i64 code])) (w.alloc o) := fun o ver code hp =>
    ⟨ver, code, L, next, hp, rfl, (HS.out.below (bal (Below.refl _ _) o)).more, fun B _ _ hB => (bal (Below.refl _ _) o).mono hB⟩
  have HUN := Lib.hid hun; clear hun
  by_cases l1 : 600 < data.size
  · have d1 : decide (600 < (data.size : Int)) = true := by simp; omega
    have hp : PutP L next key data 0 8 L next := .inl ⟨l1, rfl, rfl, rfl, rfl⟩
    have HP := Lib.hid hp; clear hp
    go_enter Tryz.func97, Tryz.ntmps97
    go_wp2
    exact bodyPost_ret (v := .tuple #[.int .i64 0, .int .i64 8]) (by simp [results, Tryz.results97, go_sem]) rfl (HUN.out _ _ _ HP.out)
  have d1 : decide (600 < (data.size : Int)) = false := by simp; omega
  by_cases l2 : look L key = none ∧ 300 ≤ L.length
  · have hp : PutP L next key data 0 7 L next := .inr (.inl ⟨l1, .inl l2, rfl, rfl, rfl, rfl⟩)
    have HP := Lib.hid hp; clear hp
    rw [l2.1] at hlk
    simp only [orZero, Option.isSome] at hlk
    have hlen1 := hlen (.cells #[.string zObj.key, .int .i64 zObj.ver, .string zObj.data] 92)
    have d2 : decide (300 ≤ (L.length : Int)) = true := by simp; omega
    clear l1 l2 hlen
    go_enter Tryz.func97, Tryz.ntmps97
    go_wp2
    exact bodyPost_ret (v := .tuple #[.int .i64 0, .int .i64 7]) (by simp [results, Tryz.results97, go_sem]) rfl (HUN.out _ _ _ HP.out)
  by_cases l3 : 1000000000 ≤ next
  · have hp : PutP L next key data 0 7 L next := .inr (.inl ⟨l1, .inr l3, rfl, rfl, rfl, rfl⟩)
    have HP := Lib.hid hp; clear hp
    have d3 : decide (1000000000 ≤ next) = true := by simpa using l3
    cases hlo : look L key with
    | none =>
      rw [hlo] at hlk
      simp only [orZero, Option.isSome] at hlk
      have hlen1 := hlen (.cells #[.string zObj.key, .int .i64 zObj.ver, .string zObj.data] 92)
      have d2 : decide (300 ≤ (L.length : Int)) = false := by have : ¬ 300 ≤ L.length := (fun h => l2 ⟨hlo, h⟩); simp; omega
      clear l1 l2 l3 hlen hlo
      go_enter Tryz.func97, Tryz.ntmps97
      go_wp2
      exact bodyPost_ret (v := .tuple #[.int .i64 0, .int .i64 7]) (by simp [results, Tryz.results97, go_sem]) rfl (HUN.out _ _ _ HP.out)
    | some o =>
      rw [hlo] at hlk
      simp only [orZero, Option.isSome] at hlk
      clear l1 l2 l3 hlen hlo
      go_enter Tryz.func97, Tryz.ntmps97
      go_wp2
      exact bodyPost_ret (v := .tuple #[.int .i64 0, .int .i64 7]) (by simp [results, Tryz.results97, go_sem]) rfl (HUN.out _ _ _ HP.out)
  have d3 : decide (1000000000 ≤ next) = false := by simpa using l3
  have hp : PutP L next key data next 0 (setL L ⟨key, next, data⟩) (next + 1) := .inr (.inr ⟨l1, (fun h => h.elim l2 l3), rfl, rfl, rfl, rfl⟩)
  have HP := Lib.hid hp; clear hp
  obtain ⟨W, hW⟩ : ∃ W, W = w.alloc (.cells #[.string (orZero (look L key)).key, .int .i64 (orZero (look L key)).ver, .string (orZero (look L key)).data] 92) := ⟨_, rfl⟩
  have hbW : Below w.heap.size w W := by rw [hW]; exact bal (Below.refl _ _) _
  obtain ⟨⟨ta0, ta1⟩, hfa, hma, _, hga⟩ := HS.out.below hbW
  obtain ⟨w3, hrun, hm3, hg3⟩ := hma.put (by simp only [maxLen]; omega) hk ⟨key, next, data⟩
  have he3 : (fun x => if x = key then some (⟨key, next, data⟩ : GObj) else look L x) = look (setL L ⟨key, next, data⟩) := by
    funext x
    rw [setL_look]
  rw [he3] at hm3
  clear he3
  have T3 : Two w3 g (.map (some m)) (.int .i64 next) := Two.grown ⟨ta0, ta1⟩ hg3 hga (fun g' e => by injection e with e; omega)
  have F3 : ∀ i, w3.frozen? ⟨g, i, none⟩ = false := fun i => (World.frozen?_of_block (a := ⟨g, i, none⟩) (hg3.block g hga (fun e => by injection e with e; omega))).trans (hfa i)
  have S4 : Shelf (w3.setCell ⟨g, 1, none⟩ (.int .i64 (next + 1))) g m (n + 1) (next + 1) (look (setL L ⟨key, next, data⟩)) :=
    ⟨T3.set1 _, fun i => (frozen_setCell _ _ _ _).trans (F3 i), hm3.far (p := ⟨g, 1, none⟩) (fun e => hgm e.symm) _, hgm, by rw [size_setCell]; exact Nat.lt_of_lt_of_le hga hg3.size⟩
  have B4 : ∀ B, B ≤ g → B ≤ m → B ≤ w.heap.size → Below B w (w3.setCell ⟨g, 1, none⟩ (.int .i64 (next + 1))) := fun B h1 h2 h3 =>
    ((hbW.mono h3).trans (below_of_grown hg3 (Nat.le_trans h3 hbW.size) (fun g' e => by injection e with e; omega))).setCell h1 _
  have HE := Lib.hid (show PutEnd g m n L next key data w (.returned (.tuple #[.int .i64 next, .int .i64 0])) (w3.setCell ⟨g, 1, none⟩ (.int .i64 (next + 1))) from ⟨next, 0, _, _, HP.out, rfl, S4, B4⟩)
  obtain ⟨t30, t31⟩ := T3
  have f31 := F3 1
  clear S4 B4 hm3 hg3 hma HP hfa F3 HS HUN hbW
  have hwr : wrap64 (next + 1) = next + 1 := by simp only [wrap64]; omega
  cases hlo : look L key with
  | none =>
    rw [hlo] at hlk hW
    simp only [orZero, Option.isSome] at hlk hW
    have hlen1 := hlen (.cells #[.string zObj.key, .int .i64 zObj.ver, .string zObj.data] 92)
    have d2 : decide (300 ≤ (L.length : Int)) = false := by have : ¬ 300 ≤ L.length := (fun h => l2 ⟨hlo, h⟩); simp; omega
    clear l1 l2 l3 hlen hlo
    subst hW
    go_enter Tryz.func97, Tryz.ntmps97
    go_wp2
    exact bodyPost_ret (v := .tuple #[.int .i64 next, .int .i64 0]) (by simp [results, Tryz.results97, go_sem]) rfl HE.out
  | some o =>
    rw [hlo] at hlk hW
    simp only [orZero, Option.isSome] at hlk hW
    clear l1 l2 l3 hlen hlo
    subst hW
    go_enter Tryz.func97, Tryz.ntmps97
    go_wp2
    exact bodyPost_ret (v := .tuple #[.int .i64 next, .int .i64 0]) (by simp [results, Tryz.results97, go_sem]) rfl HE.out

end Go.Proofs.YthmpmagajbmpaaaGreatDoor

/- Contracts of the program's PutAbsent, PutVersion and DeleteVersion. -/
namespace Go.Proofs.YthmpmagajbmpaaaGreatDoor
open Go.ChangeShapes Go.WideShapes Go.ChangeAt Go.RowKit Go.Maps
set_option linter.unusedVariables false

/-- a store in new memory, a version and a code are answered -/
def StAns (R : List GObj → Int → Int → Int → Prop) (w : World) (e : Ending) (w' : World) : Prop :=
  ∃ (L : List GObj) (nx ver code : Int) (A : Option Addr) (c : Nat), R L nx ver code ∧ e = .returned (.tuple #[.agg #[.slice A L.length c, .int .i64 nx], .int .i64 ver, .int .i64 code]) ∧ ObjsAt w' w'.heap.size A L ∧ Free w' A ∧ (∀ b, blk A = some b → w.heap.size ≤ b ∧ b < w'.heap.size) ∧ L.length ≤ c ∧ Below w.heap.size w w'

/-- what PutAbsent answers -/
def AbsR (xs : List GObj) (next : Int) (key data : ByteArray) (L : List GObj) (nx ver code : Int) : Prop :=
  (FaultP xs next key [data] code ∧ code ≠ 0 ∧ L = [] ∧ nx = 0 ∧ ver = 0) ∨
  (FaultP xs next key [data] 0 ∧ look xs key ≠ none ∧ L = xs ∧ nx = next ∧ ver = 0 ∧ code = 9) ∨
  (FaultP xs next key [data] 0 ∧ look xs key = none ∧ PutP xs next key data ver code L nx)

theorem tell_look' {xs : List GObj} {next : Int} (hs : StoreP xs next) : tell xs xs.length = look xs := funext fun k => tell_look hs k

theorem fin_store {w wN : World} {x1 : Nat} {u0 u1 : Value} {A : Option Addr} {L : List GObj} (t : Two wN x1 u0 u1) (hs : ObjsAt wN wN.heap.size A L) (hf : Free wN A) (hb : ∀ b, blk A = some b → x1 < b ∧ b < wN.heap.size) (hB : Below w.heap.size w wN) (hx : w.heap.size ≤ x1) (v0 v1 : Value) :
    Two ((wN.setCell ⟨x1, 0, none⟩ v0).setCell ⟨x1, 1, none⟩ v1) x1 v0 v1 ∧ ObjsAt ((wN.setCell ⟨x1, 0, none⟩ v0).setCell ⟨x1, 1, none⟩ v1) ((wN.setCell ⟨x1, 0, none⟩ v0).setCell ⟨x1, 1, none⟩ v1).heap.size A L ∧ Free ((wN.setCell ⟨x1, 0, none⟩ v0).setCell ⟨x1, 1, none⟩ v1) A ∧
      (∀ b, blk A = some b → w.heap.size ≤ b ∧ b < ((wN.setCell ⟨x1, 0, none⟩ v0).setCell ⟨x1, 1, none⟩ v1).heap.size) ∧ Below w.heap.size w ((wN.setCell ⟨x1, 0, none⟩ v0).setCell ⟨x1, 1, none⟩ v1) := by
  refine ⟨(t.set0 v0).set1 v1, ?_, (hf.setCell _ _).setCell _ _, fun b e => ?_, (hB.setCell (p := ⟨x1, 0, none⟩) hx _).setCell (p := ⟨x1, 1, none⟩) hx _⟩
  · rw [size_setCell, size_setCell]
    exact (Sl.far hs (p := ⟨x1, 0, none⟩) (fun b e => by have := (hb b e).1; show b ≠ x1; omega) _).far (p := ⟨x1, 1, none⟩) (fun b e => by have := (hb b e).1; show b ≠ x1; omega) _
  · rw [size_setCell, size_setCell]
    exact ⟨by have := (hb b e).1; omega, (hb b e).2⟩

theorem PutP.facts {L L' : List GObj} {next nx ver code : Int} {key data : ByteArray} (h : PutP L next key data ver code L' nx) (hr : Rise L) (hk : ∀ o ∈ L, o.key.size ≤ maxLen) (hk' : key.size ≤ maxLen) : Rise L' ∧ L'.length ≤ L.length + 1 ∧ ∀ o ∈ L', o.key.size ≤ maxLen := by
  rcases h with ⟨_, _, _, rfl, _⟩ | ⟨_, _, _, _, rfl, _⟩ | ⟨_, _, _, _, rfl, _⟩
  · exact ⟨hr, by omega, hk⟩
  · exact ⟨hr, by omega, hk⟩
  · refine ⟨setL_rise hr, setL_len _ _, fun o ho => ?_⟩
    rcases setL_mem ho with rfl | ho
    · exact hk'
    · exact hk o ho

set_option maxRecDepth 100000 in
set_option maxHeartbeats 1000000 in
theorem putAbsent_any (A : Option Addr) (c : Nat) (next : Int) (xs : List GObj) (key data : ByteArray) (B : Nat) (w : World) (h : ObjsAt w B A xs) (hB : B ≤ w.heap.size) (hf : ∀ o ∈ xs, o.fit) (hl : xs.length ≤ 1048576) (hk : key.size ≤ maxLen) (hd : data.size ≤ maxLen) :
    Calls Tryz.prog 61 #[.agg #[.slice A xs.length c, .int .i64 next], .string key, .string data] w (StAns (AbsR xs next key data) w) := by
  have H := Lib.hid h; clear h
  have Hf := Lib.hid hf; clear hf
  have Hk := Lib.hid hk; clear hk
  have Hd := Lib.hid hd; clear hd
  go_enter Tryz.func61, Tryz.ntmps61
  go_wp2_with fail
  obtain ⟨W, hW⟩ : ∃ W, W = ((w.alloc (.cells #[.slice A xs.length c, .int .i64 next] 51)).alloc (.cells #[.slice none 0 0, .int .i64 0] 51)).alloc (.cells #[.string data] 9) := ⟨_, rfl⟩
  have t0 : Two W w.heap.size (.slice A xs.length c) (.int .i64 next) := by rw [hW]; exact ((Two.new w _ _ _).alloc (by simp) _).alloc (by simp; omega) _
  have t1 : Two W (w.heap.size + 1) (.slice none 0 0) (.int .i64 0) := by
    rw [hW]
    have := (Two.new (w.alloc (.cells #[.slice A xs.length c, .int .i64 next] 51)) (.slice none 0 0) (.int .i64 0) 51).alloc (by simp) (.cells #[.string data] 9)
    simpa using this
  have k1 : W.cell? ⟨w.heap.size + 2, 0, none⟩ = some (.string data) := by
    rw [hW]
    have := cell_one_new ((w.alloc (.cells #[.slice A xs.length c, .int .i64 next] 51)).alloc (.cells #[.slice none 0 0, .int .i64 0] 51)) (.string data) 9 0 _ rfl
    simpa [Addr.add] using this
  have f1 : ∀ i, W.frozen? ⟨w.heap.size + 1, i, none⟩ = false := fun i => by
    rw [hW]
    have := free_alloc (w.alloc (.cells #[.slice A xs.length c, .int .i64 next] 51)) #[.slice none 0 0, .int .i64 0] 51 0 (w.heap.size + 1) (by simp [blk]) i
    exact (((Below.refl _ _).alloc (Nat.le_refl _) _).frozen (p := ⟨w.heap.size + 1, i, none⟩) (by simp)).trans this
  have b0 : Below w.heap.size w W := by rw [hW]; exact bal (bal (bal (Below.refl _ _) _) _) _
  have s0 : W.heap.size = w.heap.size + 3 := by rw [hW]; simp
  rw [← hW]
  clear hW
  have hst : StrsAt W W.heap.size (some ⟨w.heap.size + 1 + 1, 0, none⟩) [data] := by
    intro _
    refine ⟨w.heap.size + 2, 0, rfl, by omega, fun k hk j v hv => ?_⟩
    match k, j, hk, hv with
    | 0, 0, _, hv => simp [sVals] at hv; subst hv; simpa using k1
    | 0, j + 1, _, hv => simp [sVals] at hv
    | k + 1, _, hk, _ => simp at hk
  have T0 := Lib.hid t0; clear t0
  have T1 := Lib.hid t1; clear t1
  have F1 := Lib.hid f1; clear f1 k1
  refine (fault_any A c next xs key (some ⟨w.heap.size + 1 + 1, 0, none⟩) 1 [data] W.heap.size W ((Sl.below H.out b0 hB).more (by omega)) hst (Nat.le_refl _) Hf.out hl Hk.out (by simp; exact Hd.out) (by simp)).mono ?_
  clear hst
  rintro e w1 ⟨code, hc, rfl, hb1⟩
  have b1 := bnext b0 hb1
  have T01 := Lib.hid (T0.out.below hb1 (by omega)); clear T0
  have T11 := Lib.hid (T1.out.below hb1 (by omega)); clear T1
  have F11 := Lib.hid (show ∀ i, w1.frozen? ⟨w.heap.size + 1, i, none⟩ = false from fun i => (hb1.frozen (p := ⟨w.heap.size + 1, i, none⟩) (by show w.heap.size + 1 < W.heap.size; omega)).trans (F1.out i)); clear F1
  have s1 : w.heap.size + 3 ≤ w1.heap.size := by have := hb1.size; omega
  clear hb1 b0
  generalize hx : w.heap.size = x at *
  have Hx := Lib.hid hx; clear hx
  by_cases hz : code = 0
  · subst hz
    have hS := (FaultP.zero hc).1
    have hnx : 0 ≤ next ∧ next ≤ 1000000000 := ⟨by have := hS.1; omega, hS.2.1⟩
    have hl3 := hS.2.2.1
    have HS := Lib.hid hS; clear hS
    have Hc := Lib.hid hc; clear hc
    obtain ⟨t10, t11⟩ := T01.out
    go_wp2_with fail
    refine (open_any A c next xs B w1 (Sl.below H.out b1 hB) (by omega) Hf.out hl3).mono ?_
    rintro e w2 ⟨g, m, rfl, hsh, hg0, hm0, hb2⟩
    rw [tell_look' HS.out] at hsh
    have b2 : Below x w w2 := b1.trans (hb2.mono (by omega))
    have T12 := Lib.hid (T11.out.below hb2 (by omega)); clear T11 T01
    have F12 := Lib.hid (show ∀ i, w2.frozen? ⟨x + 1, i, none⟩ = false from fun i => (hb2.frozen (p := ⟨x + 1, i, none⟩) (by show x + 1 < w1.heap.size; omega)).trans (F11.out i)); clear F11
    have s2 : x + 3 ≤ w2.heap.size := by have := hb2.size; omega
    clear hb2 t10 t11 b1
    have hlk := hsh.2.2.1.look Hk.out
    obtain ⟨tg0, tg1⟩ := hsh.1
    have hgl := hsh.2.2.2.2
    have HSH := Lib.hid hsh; clear hsh
    cases hlo : look xs key with
    | some o =>
      have hr : AbsR xs next key data xs next 0 9 := .inr (.inl ⟨Hc.out, by rw [hlo]; simp, rfl, rfl, rfl, rfl⟩)
      have Hr := Lib.hid hr; clear hr
      rw [hlo] at hlk
      simp only [orZero, Option.isSome] at hlk
      clear hlo
      go_wp2_with fail
      obtain ⟨W3, hW3⟩ : ∃ W3, W3 = w2.alloc (.cells #[.string o.key, .int .i64 o.ver, .string o.data] 92) := ⟨_, rfl⟩
      have hb3 : Below w2.heap.size w2 W3 := by rw [hW3]; exact bal (Below.refl _ _) _
      rw [← hW3]
      clear hW3 hlk tg0 tg1
      refine (close_any g m xs.length next xs W3 (HSH.out.below hb3) (rise_of_store HS.out) (by omega) (fun o ho => (Hf.out o ho).1.1)).mono ?_
      rintro e wN ⟨v, rfl, A', c', rfl, hsl, hfr, hbl, hcc, hbN⟩
      have bb : Below w2.heap.size w2 wN := bnext hb3 hbN
      have s3 := hb3.size
      have bN : Below x w wN := b2.trans (bb.mono (by omega))
      have T1N := T12.out.below bb (by omega)
      obtain ⟨t10, t11⟩ := T1N
      have f10 := (bb.frozen (p := ⟨x + 1, 0, none⟩) (by show x + 1 < w2.heap.size; omega)).trans (F12.out 0)
      have f11 := (bb.frozen (p := ⟨x + 1, 1, none⟩) (by show x + 1 < w2.heap.size; omega)).trans (F12.out 1)
      have T1N : Two wN (x + 1) (.slice none 0 0) (.int .i64 0) := ⟨t10, t11⟩
      clear hb3 hbN bb HSH T12 F12
      go_wp2
      obtain ⟨⟨z0, z1⟩, r1, r2, r3, r4⟩ := fin_store (w := w) T1N hsl hfr (fun b e => ⟨by have := (hbl b e).1; omega, (hbl b e).2⟩) (by rw [Hx.out]; exact bN) (by rw [Hx.out]; omega) (.slice A' xs.length c') (.int .i64 next)
      clear t10 t11 f10 f11
      generalize (wN.setCell ⟨x + 1, 0, none⟩ (.slice A' xs.length c')).setCell ⟨x + 1, 1, none⟩ (.int .i64 next) = wF at *
      exact bodyPost_ret (v := .tuple #[.agg #[.slice A' xs.length c', .int .i64 next], .int .i64 0, .int .i64 9]) (by simp [results, Tryz.results61, go_sem, z0, z1]) rfl ⟨xs, next, 0, 9, A', c', Hr.out, rfl, r1, r2, r3, hcc, r4⟩
    | none =>
      rw [hlo] at hlk
      simp only [orZero, Option.isSome] at hlk
      go_wp2_with fail
      obtain ⟨W3, hW3⟩ : ∃ W3, W3 = w2.alloc (.cells #[.string zObj.key, .int .i64 zObj.ver, .string zObj.data] 92) := ⟨_, rfl⟩
      have hb3 : Below w2.heap.size w2 W3 := by rw [hW3]; exact bal (Below.refl _ _) _
      rw [← hW3]
      clear hW3 hlk tg0 tg1
      have s3 := hb3.size
      refine (put_any g m xs.length next xs key data W3 (HSH.out.below hb3) (rise_of_store HS.out) (by omega) Hk.out Hd.out hnx).mono ?_
      rintro e w4 ⟨ver, code, L', nx', hp, rfl, hsh4, hb4⟩
      have hr : AbsR xs next key data L' nx' ver code := .inr (.inr ⟨Hc.out, hlo, hp⟩)
      have Hr := Lib.hid hr; clear hr
      obtain ⟨hri, hlen, hks⟩ := PutP.facts hp (rise_of_store HS.out) (fun o ho => (Hf.out o ho).1.1) Hk.out
      clear hp hlo
      have hb24 : Below w1.heap.size w2 w4 := (hb3.mono (by omega)).trans (hb4 w1.heap.size (by omega) (by omega) (by omega))
      clear hb4 HSH hb3
      have s4 := hb24.size
      go_wp2_with fail
      refine (close_any g m (xs.length + 1) nx' L' w4 hsh4 hri (by omega) hks).mono ?_
      rintro e wN ⟨v, rfl, A', c', rfl, hsl, hfr, hbl, hcc, hbN⟩
      have bb : Below w1.heap.size w2 wN := hb24.trans (hbN.mono (by omega))
      have bN : Below x w wN := b2.trans (bb.mono (by omega))
      have T1N := T12.out.below bb (by omega)
      obtain ⟨t10, t11⟩ := T1N
      have f10 := (bb.frozen (p := ⟨x + 1, 0, none⟩) (by show x + 1 < w1.heap.size; omega)).trans (F12.out 0)
      have f11 := (bb.frozen (p := ⟨x + 1, 1, none⟩) (by show x + 1 < w1.heap.size; omega)).trans (F12.out 1)
      have T1N : Two wN (x + 1) (.slice none 0 0) (.int .i64 0) := ⟨t10, t11⟩
      clear hb24 hbN bb T12 F12 hsh4
      go_wp2
      obtain ⟨⟨z0, z1⟩, r1, r2, r3, r4⟩ := fin_store (w := w) T1N hsl hfr (fun b e => ⟨by have := (hbl b e).1; omega, (hbl b e).2⟩) (by rw [Hx.out]; exact bN) (by rw [Hx.out]; omega) (.slice A' L'.length c') (.int .i64 nx')
      clear t10 t11 f10 f11
      generalize (wN.setCell ⟨x + 1, 0, none⟩ (.slice A' L'.length c')).setCell ⟨x + 1, 1, none⟩ (.int .i64 nx') = wF at *
      exact bodyPost_ret (v := .tuple #[.agg #[.slice A' L'.length c', .int .i64 nx'], .int .i64 ver, .int .i64 code]) (by simp [results, Tryz.results61, go_sem, z0, z1]) rfl ⟨L', nx', ver, code, A', c', Hr.out, rfl, r1, r2, r3, hcc, r4⟩
  · have hr : AbsR xs next key data [] 0 0 code := .inl ⟨hc, hz, rfl, rfl, rfl⟩
    have Hr := Lib.hid hr; clear hr
    have d2 : (code != 0) = true := by simpa using hz
    have d3 : (code == 0) = false := by simpa using hz
    clear hz hc
    have T1N := T11.out
    obtain ⟨t10, t11⟩ := T11.out
    have f10 := F11.out 0
    have f11 := F11.out 1
    go_wp2
    obtain ⟨⟨z0, z1⟩, r1, r2, r3, r4⟩ := fin_store (w := w) (A := none) (L := []) T1N Sl.nil Free.none_ (fun b e => by cases e) (by rw [Hx.out]; exact b1) (by rw [Hx.out]; omega) (.slice none 0 0) (.int .i64 0)
    clear t10 t11 f10 f11
    generalize (w1.setCell ⟨x + 1, 0, none⟩ (.slice none 0 0)).setCell ⟨x + 1, 1, none⟩ (.int .i64 0) = wF at *
    exact bodyPost_ret (v := .tuple #[.agg #[.slice none 0 0, .int .i64 0], .int .i64 0, .int .i64 code]) (by simp [results, Tryz.results61, go_sem, z0, z1]) rfl ⟨[], 0, 0, code, none, 0, Hr.out, rfl, r1, r2, r3, by simp, r4⟩

end Go.Proofs.YthmpmagajbmpaaaGreatDoor

/- Contracts of the model's l01Room, l01Set, l01Absent, PutAbsent. -/
namespace Go.Proofs.YthmpmagajbmpaaaGreatDoor
open Go.ChangeShapes Go.WideShapes Go.ChangeAt Go.RowKit Go.Maps
set_option linter.unusedVariables false

/-- what l01Room answers -/
def RoomP (xs : List GObj) (next : Int) (key data : ByteArray) (code : Int) : Prop :=
  (600 < data.size ∧ code = 8) ∨ (¬ 600 < data.size ∧ ((look xs key = none ∧ 300 ≤ xs.length) ∨ 1000000000 ≤ next) ∧ code = 7) ∨ (¬ 600 < data.size ∧ ¬ ((look xs key = none ∧ 300 ≤ xs.length) ∨ 1000000000 ≤ next) ∧ code = 0)

set_option maxRecDepth 100000 in
theorem specRoom_any (A : Option Addr) (c : Nat) (next : Int) (xs : List GObj) (key data : ByteArray) (B : Nat) (w : World) (h : ObjsAt w B A xs) (hB : B ≤ w.heap.size) (hl : xs.length ≤ 300) (hn : next ≤ 1000000000) (hd : data.size ≤ maxLen) :
    Calls Tryz.prog 131 #[.agg #[.slice A xs.length c, .int .i64 next], .string key, .string data] w fun e w' => ∃ code, RoomP xs next key data code ∧ e = .returned (.int .i64 code) ∧ Below w.heap.size w w' := by
  have H := Lib.hid h; clear h
  unfold maxLen at hd
  by_cases l1 : 600 < data.size
  · have d1 : decide (600 < (data.size : Int)) = true := by simp; omega
    have hp : RoomP xs next key data 8 := .inl ⟨l1, rfl⟩
    have HP := Lib.hid hp; clear hp
    go_enter Tryz.func131, Tryz.ntmps131
    go_wp2
    go_ret
    exact ⟨8, HP.out, rfl, bal (Below.refl _ _) _⟩
  have d1 : decide (600 < (data.size : Int)) = false := by simp; omega
  go_enter Tryz.func131, Tryz.ntmps131
  go_wp2_with fail
  obtain ⟨W, hW⟩ : ∃ W, W = w.alloc (.cells #[.slice A xs.length c, .int .i64 next] 51) := ⟨_, rfl⟩
  have t1 : Two W w.heap.size (.slice A xs.length c) (.int .i64 next) := by rw [hW]; exact Two.new _ _ _ _
  have b0 : Below w.heap.size w W := by rw [hW]; exact bal (Below.refl _ _) _
  have s0 : w.heap.size < W.heap.size := by rw [hW]; simp
  rw [← hW]
  clear hW
  refine (find_any A c next xs key B W (Sl.below H.out b0 hB) (by omega) (by omega)).mono ?_
  rintro e w1 ⟨v, hv, rfl, hb1⟩
  have b1 := bnext b0 hb1
  obtain ⟨t10, t11⟩ := t1.below hb1 s0
  clear hb1 b0 t1
  have L1 := Lib.hid l1; clear l1
  by_cases hnx : 1000000000 ≤ next
  · have hp : RoomP xs next key data 7 := .inr (.inl ⟨L1.out, .inr hnx, rfl⟩)
    have HP := Lib.hid hp; clear hp
    have d3 : (next == 1000000000) = true := by simp; omega
    rcases look_of_find hv with ⟨hneg, hlo⟩ | ⟨i, hi, rfl, hlo⟩
    · have d2 : decide (v < 0) = true := by simpa using hneg
      by_cases hl3 : xs.length = 300
      · have d4 : ((xs.length : Int) == 300) = true := by simp; omega
        clear hv hlo
        go_wp2
        go_ret
        exact ⟨7, HP.out, rfl, b1⟩
      · have d4 : ((xs.length : Int) == 300) = false := by simp; omega
        clear hv hlo
        go_wp2
        go_ret
        exact ⟨7, HP.out, rfl, b1⟩
    · have d2 : decide ((i : Int) < 0) = false := by simp
      clear hv hlo
      go_wp2
      go_ret
      exact ⟨7, HP.out, rfl, b1⟩
  · have d3 : (next == 1000000000) = false := by simp; omega
    rcases look_of_find hv with ⟨hneg, hlo⟩ | ⟨i, hi, rfl, hlo⟩
    · have d2 : decide (v < 0) = true := by simpa using hneg
      by_cases hl3 : xs.length = 300
      · have d4 : ((xs.length : Int) == 300) = true := by simp; omega
        have hp : RoomP xs next key data 7 := .inr (.inl ⟨L1.out, .inl ⟨hlo, by omega⟩, rfl⟩)
        have HP := Lib.hid hp; clear hp
        clear hv hlo
        go_wp2
        go_ret
        exact ⟨7, HP.out, rfl, b1⟩
      · have d4 : ((xs.length : Int) == 300) = false := by simp; omega
        have hp : RoomP xs next key data 0 := .inr (.inr ⟨L1.out, (fun h => h.elim (fun h => by have := h.2; omega) hnx), rfl⟩)
        have HP := Lib.hid hp; clear hp
        clear hv hlo
        go_wp2
        go_ret
        exact ⟨0, HP.out, rfl, b1⟩
    · have d2 : decide ((i : Int) < 0) = false := by simp
      have hp : RoomP xs next key data 0 := .inr (.inr ⟨L1.out, (fun h => h.elim (fun h => by rw [hlo] at h; cases h.1) hnx), rfl⟩)
      have HP := Lib.hid hp; clear hp
      clear hv hlo
      go_wp2
      go_ret
      exact ⟨0, HP.out, rfl, b1⟩

end Go.Proofs.YthmpmagajbmpaaaGreatDoor

/- Contracts of DeleteVersion of both packages. -/
namespace Go.Proofs.YthmpmagajbmpaaaGreatDoor
open Go.ChangeShapes Go.WideShapes Go.ChangeAt Go.RowKit Go.Maps
set_option linter.unusedVariables false

/-- a store in new memory and a code are answered -/
def StAns2 (R : List GObj → Int → Int → Prop) (w : World) (e : Ending) (w' : World) : Prop :=
  ∃ (L : List GObj) (nx code : Int) (A : Option Addr) (c : Nat), R L nx code ∧ e = .returned (.tuple #[.agg #[.slice A L.length c, .int .i64 nx], .int .i64 code]) ∧ ObjsAt w' w'.heap.size A L ∧ Free w' A ∧ (∀ b, blk A = some b → w.heap.size ≤ b ∧ b < w'.heap.size) ∧ L.length ≤ c ∧ Below w.heap.size w w'

/-- what DeleteVersion answers -/
def DelR (xs : List GObj) (next : Int) (key : ByteArray) (ver : Int) (L : List GObj) (nx code : Int) : Prop :=
  (FaultP xs next key [] code ∧ code ≠ 0 ∧ L = [] ∧ nx = 0) ∨
  (FaultP xs next key [] 0 ∧ VerP xs key ver code ∧ code ≠ 0 ∧ L = xs ∧ nx = next) ∨
  (FaultP xs next key [] 0 ∧ VerP xs key ver 0 ∧ code = 0 ∧ L = delL xs key ∧ nx = next)

theorem VerP.one {L : List GObj} {key : ByteArray} {ver a b : Int} (h : VerP L key ver a) (h' : VerP L key ver b) : a = b := by
  rcases h with ⟨h1, rfl⟩ | ⟨o, h1, h2, rfl⟩ | ⟨o, h1, h2, rfl⟩ <;> rcases h' with ⟨k1, rfl⟩ | ⟨p, k1, k2, rfl⟩ | ⟨p, k1, k2, rfl⟩ <;> first
    | rfl
    | (rw [h1] at k1; cases k1; contradiction)
    | (rw [h1] at k1; cases k1)

theorem DelR.one {xs : List GObj} {next : Int} {key : ByteArray} {ver : Int} {L L' : List GObj} {nx nx' c c' : Int} (h : DelR xs next key ver L nx c) (h' : DelR xs next key ver L' nx' c') : L' = L ∧ nx' = nx ∧ c' = c := by
  have fo : ∀ a b, FaultP xs next key [] a → FaultP xs next key [] b → a = b := fun a b h h' => by first | exact FaultP.one h h' | exact (FaultP.one h h').symm
  rcases h with ⟨h1, h2, e1, e2⟩ | ⟨h1, h2, h3, e1, e2⟩ | ⟨h1, h2, e0, e1, e2⟩
  · rcases h' with ⟨k1, k2, d1, d2⟩ | ⟨k1, k2, k3, d1, d2⟩ | ⟨k1, k2, d0, d1, d2⟩
    · exact ⟨by rw [d1, e1], by rw [d2, e2], fo _ _ k1 h1⟩
    · exact absurd (fo _ _ h1 k1) h2
    · exact absurd (fo _ _ h1 k1) h2
  · rcases h' with ⟨k1, k2, d1, d2⟩ | ⟨k1, k2, k3, d1, d2⟩ | ⟨k1, k2, d0, d1, d2⟩
    · exact absurd (fo _ _ k1 h1) k2
    · exact ⟨by rw [d1, e1], by rw [d2, e2], VerP.one k2 h2⟩
    · exact absurd (VerP.one h2 k2) h3
  · rcases h' with ⟨k1, k2, d1, d2⟩ | ⟨k1, k2, k3, d1, d2⟩ | ⟨k1, k2, d0, d1, d2⟩
    · exact absurd (fo _ _ k1 h1) k2
    · exact absurd (VerP.one k2 h2) k3
    · exact ⟨by rw [d1, e1], by rw [d2, e2], by rw [d0, e0]⟩

theorem ObjMap.del {w : World} {b n : Nat} {f : ByteArray → Option GObj} (h : ObjMap w b n f) {k : ByteArray} (hk : k.size ≤ maxLen) (ty : TypeId) :
    ∃ w', (Builtin.delete_ #[86, 9] ty #[.map (some b), .string k]).run Tryz.prog w = .ok (.tuple #[]) w' ∧ ObjMap w' b n (fun x => if x = k then none else f x) ∧ w.grownBy w' (some b) := by
  obtain ⟨D, hown, hat⟩ := h
  obtain ⟨w', hrun, hown', hg⟩ := hown.drop strKeyed Tryz.underlying86 (WideMaps.keyOf_string_mk Tryz.underlying9 hk) ty
  exact ⟨w', hrun, ⟨_, hown', hat.del k⟩, hg.grown⟩

theorem tell_look2 {xs : List GObj} {next : Int} (hs : StoreP xs next) : tell xs xs.length = look xs := funext fun k => tell_look hs k

theorem delL_size {xs : List GObj} {key : ByteArray} (h : ∀ o ∈ xs, o.key.size ≤ maxLen) : ∀ o ∈ delL xs key, o.key.size ≤ maxLen := fun o ho => h o (List.mem_filter.1 ho).1

end Go.Proofs.YthmpmagajbmpaaaGreatDoor

/- Contracts of the model's l01Delete and DeleteVersion. -/
namespace Go.Proofs.YthmpmagajbmpaaaGreatDoor
open Go.ChangeShapes Go.WideShapes Go.ChangeAt Go.RowKit Go.Maps
set_option linter.unusedVariables false

theorem run_append_objs {w : World} (base : Nat) (ty : TypeId) (xs ys : List GObj) (v : Value) (hown : OwnSl GObj.vals 3 92 base w v xs) (A : Option Addr) (c B : Nat) (hys : ObjsAt w B A ys)
    (hl : xs.length + ys.length ≤ 1000000000) (hbase : base ≤ w.heap.size) :
    ∃ v' w', (Builtin.append_ #[49, 49] ty #[v, .slice A ys.length c]).run Tryz.prog w = .ok v' w' ∧ OwnSl GObj.vals 3 92 base w' v' (xs ++ ys) ∧ w.grownBy w' v.ownBlock := by
  obtain ⟨i0, hi0, hz0, hz1, hz2⟩ := info_parts infoObj
  have go : ∀ ad news, news.length = ys.length * 3 → (∀ j u, news[j]? = some u → w.cell? (Addr.add ad j) = some u) → news = ys.flatMap GObj.vals → A = some ad → ∃ v' w', (Builtin.append_ #[49, 49] ty #[v, .slice A ys.length c]).run Tryz.prog w = .ok v' w' ∧ OwnSl GObj.vals 3 92 base w' v' (xs ++ ys) ∧ w.grownBy w' v.ownBlock := by
    rintro ad news hnl hc rfl rfl
    obtain ⟨v', w', h0, h1, h2, _, _⟩ := run_append_own_at (P := Tryz.prog) w base 49 ty 92 i0 _ 3 40 Tryz.underlying49 hi0 hz0 hz1 hz2 rfl (by omega) v xs.length (xs.flatMap GObj.vals) hown ad ys.length c (ys.flatMap GObj.vals) hnl hc (by
      intro u hu
      obtain ⟨o, _, hu⟩ := List.mem_flatMap.1 hu
      simp [GObj.vals] at hu
      rcases hu with rfl | rfl | rfl <;> rfl) (by simp only [maxLen]; omega) (by omega) hbase
    refine ⟨v', w', h0, ?_, h2⟩
    unfold OwnSl
    rw [List.length_append, List.flatMap_append]
    exact h1
  by_cases hy : ys = []
  · subst hy
    cases A with
    | none => exact ⟨v, w, run_append_nil base c 49 ty 92 i0 3 Tryz.underlying49 hi0 v xs.length (xs.flatMap GObj.vals) hown, by rw [List.append_nil]; exact hown, ⟨rfl, rfl, rfl, Nat.le_refl _, fun _ _ _ => rfl⟩⟩
    | some ad => exact go ad [] rfl (by simp) rfl rfl
  · obtain ⟨b, off, e, _, hc⟩ := hys hy
    exact go ⟨b, off, none⟩ _ (flat_length GObj.vals 3 vals_length ys) (flat_cells hc) rfl e

theorem step_append_objs {w : World} {ops : Array Oper} {o : Oper} {a : Act} {K : Act → World → Prop} {Q : Exit → Act → World → Prop} {E : Prop} (hgd : o.guard = none) (s x : Operand)
    (ho : o.op = .call { callee := .builtin .append, args := #[s, x], argTypes := #[49, 49] })
    (base : Nat) (xs ys : List GObj) (v : Value) (hs : a.eval s = v) (hown : OwnSl GObj.vals 3 92 base w v xs) (A : Option Addr) (c B : Nat) (hx : a.eval x = .slice A ys.length c) (hys : ObjsAt w B A ys)
    (hl : xs.length + ys.length ≤ 1000000000) (hbase : base ≤ w.heap.size)
    (h : ∀ v' w', OwnSl GObj.vals 3 92 base w' v' (xs ++ ys) → w.grownBy w' v.ownBlock → K (a.put o.dst v') w') :
    if Region.wanted o (yielded ops a.tmps) = true then Oper.wp Tryz.prog o a w K Q else E := by
  have hw : Region.wanted o (yielded ops a.tmps) = true := by simp [Region.wanted, hgd]
  rw [if_pos hw]
  obtain ⟨v', w', hr, h1, h2⟩ := run_append_objs base o.type xs ys v hown A c B hys hl hbase
  unfold Oper.wp
  simp [execOp, ho, resolve, invoke, builtin, hs, hx, hr, Result.andThen]
  exact h v' w' h1 h2

theorem ObjsAt.take {w : World} {B : Nat} {A : Option Addr} {xs : List GObj} (h : ObjsAt w B A xs) (k : Nat) : ObjsAt w B A (xs.take k) := by
  intro hn
  obtain ⟨b, off, e, hb, hc⟩ := h (by rintro rfl; simp at hn)
  refine ⟨b, off, e, hb, fun i hi => ?_⟩
  have hi' : i < xs.length := by simp at hi; omega
  rw [List.getElem_take]
  exact hc i hi'

theorem ObjsAt.drop {w : World} {B b off : Nat} {xs : List GObj} (h : ObjsAt w B (some ⟨b, off, none⟩) xs) (k : Nat) : ObjsAt w B (some ⟨b, off + k * 3, none⟩) (xs.drop k) := by
  intro hn
  obtain ⟨b', off', e, hb, hc⟩ := h (by rintro rfl; simp at hn)
  injection e with e
  injection e with e1 e2
  subst e1 e2
  refine ⟨b, off + k * 3, rfl, hb, fun i hi => ?_⟩
  have hi' : k + i < xs.length := by simp at hi; omega
  rw [List.getElem_drop]
  have := hc (k + i) hi'
  rw [Nat.add_mul, ← Nat.add_assoc] at this
  exact this

theorem wrap_nat (n : Nat) (h : n ≤ 1000000) : IntKind.i64.wrap (n : Int) = (n : Int) := by
  simp [IntKind.wrap, IntKind.bits]
  omega

/-- what l01Delete answers -/
def DelS (xs : List GObj) (next : Int) (key : ByteArray) (ver : Int) (w : World) (e : Ending) (w' : World) : Prop :=
  ∃ (L : List GObj) (code : Int) (A : Option Addr) (c : Nat), VerP xs key ver code ∧ (code ≠ 0 → L = xs) ∧ (code = 0 → L = delL xs key) ∧ e = .returned (.tuple #[.agg #[.slice A L.length c, .int .i64 next], .int .i64 code]) ∧ ObjsAt w' w'.heap.size A L ∧ Below w.heap.size w w'

end Go.Proofs.YthmpmagajbmpaaaGreatDoor

/- What the drawn region of the model's l01Set leaves: three appends in new memory, stored. -/
namespace Go.Proofs.YthmpmagajbmpaaaGreatDoor
open Go.ChangeShapes Go.WideShapes Go.ChangeAt Go.RowKit Go.Maps
set_option linter.unusedVariables false

theorem own_lit (w : World) (base : Nat) (h : base ≤ w.heap.size) : OwnSl GObj.vals 3 92 base (w.alloc (.cells #[] 92)) (.slice (some ⟨w.heap.size, 0, none⟩) 0 0) [] := by
  have := World.ownsRow_lit (base := base) (e := 92) (size := 3) w #[] 0 h (by simp [maxLen]) (by simp)
  simpa [OwnSl] using this

theorem new_obj (w : World) (o : GObj) : ObjsAt (w.alloc (.cells #[.string o.key, .int .i64 o.ver, .string o.data] 92)) (w.heap.size + 1) (some ⟨w.heap.size, 0, none⟩) [o] := by
  intro _
  refine ⟨w.heap.size, 0, rfl, by omega, fun k hk j v hv => ?_⟩
  have hk0 : k = 0 := by simpa using hk
  subst hk0
  have h1 := cell_obj_new w o 92 j v (by simpa using hv)
  have e : (⟨w.heap.size, 0, none⟩ : Addr).add j = ⟨w.heap.size, 0 + 0 * 3 + j, none⟩ := by simp [Addr.add]; omega
  rw [← e]
  exact h1

set_option maxRecDepth 100000 in
set_option maxHeartbeats 4000000 in
theorem set_region {Q : Exit → Act → World → Prop} (v0 v4 v5 v9 v10 v11 v12 v13 v14 v15 v16 v17 v18 v19 v20 v21 v22 v23 v24 v25 v26 v27 v28 v29 v30 v31 v32 v33 v34 v35 v36 v37 v38 v39 v40 v41 v42 v43 v44 v45 v46 v47 v48 v49 : Value) (key data : ByteArray) (x k c ct b off B : Nat) (next : Int) (At : Option Addr) (xs ys : List GObj) (W : World)
    (hk : k ≤ xs.length) (hl : xs.length ≤ 300) (hc : xs.length ≤ c) (hx : x + 2 ≤ W.heap.size) (hB : B ≤ W.heap.size) (hxs : ObjsAt W B (some ⟨b, off, none⟩) xs) (hys : ObjsAt W B At ys) (hyl : ys.length ≤ 300)
    (t00 : W.cell? ⟨x, 0, none⟩ = some (.slice (some ⟨b, off, none⟩) xs.length c)) (t01 : W.cell? ⟨x, 1, none⟩ = some (.int .i64 next)) (f00 : W.frozen? ⟨x, 0, none⟩ = false)
    (hQ : ∀ (u50 u51 u52 u53 u54 u55 u56 u57 u58 u59 u60 u61 u62 u63 u64 u65 : Value) (A3 : Option Addr) (c3 : Nat) (w3 : World) (n3 : Nat), n3 = (xs.take k ++ [(⟨key, next, data⟩ : GObj)] ++ ys).length → OwnSl GObj.vals 3 92 W.heap.size w3 (.slice A3 n3 c3) (xs.take k ++ [(⟨key, next, data⟩ : GObj)] ++ ys) → Below W.heap.size W w3 →
      Q .normal { tmps := #[v0, .string key, .string data, .pointer (some ⟨x, 0, none⟩), v4, v5, .pointer (some ⟨x + 1, 0, none⟩), .int .i64 k, .slice At ys.length ct, v9, v10, v11, v12, v13, v14, v15, v16, v17, v18, v19, v20, v21, v22, v23, v24, v25, v26, v27, v28, v29, v30, v31, v32, v33, v34, v35, v36, v37, v38, v39, v40, v41, v42, v43, v44, v45, v46, v47, v48, v49, u50, u51, u52, u53, u54, u55, u56, u57, u58, u59, u60, u61, u62, u63, u64, u65, undef, undef, undef, undef, undef], defers := [] } (w3.setCell ⟨x, 0, none⟩ (.slice A3 n3 c3))) :
    Code.wp Tryz.prog (Code.region 7 #[{ dst := some 50, op := Op.buildSlice 49 0 #[], type := 49, pos := "l01_object.go:105", after := #[], guard := none }, { dst := some 51, op := Op.fieldAddr 51 (Operand.tmp 3) 0, type := 0, pos := "l01_object.go:105", after := #[], guard := none }, { dst := some 52, op := Op.load 49 (Operand.tmp 51), type := 49, pos := "l01_object.go:105", after := #[{ on := 1, ground := Ground.data }], guard := none }, { dst := some 53, op := Op.move (Operand.tmp 7), type := 3, pos := "l01_object.go:105", after := #[], guard := none }, { dst := some 54, op := Op.slice 49 (Operand.tmp 52) none (some (Operand.tmp 53)) none, type := 49, pos := "l01_object.go:105", after := #[{ on := 2, ground := Ground.data }, { on := 3, ground := Ground.data }], guard := none }, { dst := some 55, op := Op.call { callee := Callee.builtin Builtin.append, args := #[Operand.tmp 50, Operand.tmp 54], argTypes := #[49, 49] }, type := 49, pos := "l01_object.go:105", after := #[{ on := 0, ground := Ground.data }, { on := 4, ground := Ground.data }], guard := none }, { dst := some 56, op := Op.move (Operand.tmp 1), type := 9, pos := "l01_object.go:105", after := #[], guard := none }, { dst := some 57, op := Op.fieldAddr 51 (Operand.tmp 3) 1, type := 0, pos := "l01_object.go:105", after := #[], guard := none }, { dst := some 58, op := Op.load 3 (Operand.tmp 57), type := 3, pos := "l01_object.go:105", after := #[{ on := 7, ground := Ground.data }], guard := none }, { dst := some 59, op := Op.move (Operand.tmp 2), type := 9, pos := "l01_object.go:105", after := #[], guard := none }, { dst := some 60, op := Op.build 92 #[(0, Operand.tmp 56), (1, Operand.tmp 58), (2, Operand.tmp 59)], type := 92, pos := "l01_object.go:105", after := #[{ on := 6, ground := Ground.data }, { on := 8, ground := Ground.data }, { on := 9, ground := Ground.data }], guard := none }, { dst := some 61, op := Op.buildSlice 49 1 #[(0, Operand.tmp 60)], type := 49, pos := "l01_object.go:105", after := #[{ on := 10, ground := Ground.data }], guard := none }, { dst := some 62, op := Op.call { callee := Callee.builtin Builtin.append, args := #[Operand.tmp 55, Operand.tmp 61], argTypes := #[49, 49] }, type := 49, pos := "l01_object.go:105", after := #[{ on := 5, ground := Ground.data }, { on := 11, ground := Ground.data }, { on := 5, ground := Ground.chain }], guard := none }, { dst := some 63, op := Op.move (Operand.tmp 8), type := 49, pos := "l01_object.go:105", after := #[], guard := none }, { dst := some 64, op := Op.call { callee := Callee.builtin Builtin.append, args := #[Operand.tmp 62, Operand.tmp 63], argTypes := #[49, 49] }, type := 49, pos := "l01_object.go:105", after := #[{ on := 12, ground := Ground.data }, { on := 13, ground := Ground.data }, { on := 12, ground := Ground.chain }], guard := none }, { dst := some 65, op := Op.fieldAddr 51 (Operand.tmp 3) 0, type := 0, pos := "l01_object.go:105", after := #[{ on := 0, ground := Ground.phase }, { on := 1, ground := Ground.phase }, { on := 2, ground := Ground.phase }, { on := 3, ground := Ground.phase }, { on := 4, ground := Ground.phase }, { on := 5, ground := Ground.phase }, { on := 6, ground := Ground.phase }, { on := 7, ground := Ground.phase }, { on := 8, ground := Ground.phase }, { on := 9, ground := Ground.phase }, { on := 10, ground := Ground.phase }, { on := 11, ground := Ground.phase }, { on := 12, ground := Ground.phase }, { on := 13, ground := Ground.phase }, { on := 14, ground := Ground.phase }], guard := none }, { dst := none, op := Op.store 49 (Operand.tmp 65) (Operand.tmp 64), type := 0, pos := "l01_object.go:105", after := #[{ on := 15, ground := Ground.data }, { on := 14, ground := Ground.data }, { on := 14, ground := Ground.chain }, { on := 0, ground := Ground.phase }, { on := 1, ground := Ground.phase }, { on := 2, ground := Ground.phase }, { on := 3, ground := Ground.phase }, { on := 4, ground := Ground.phase }, { on := 5, ground := Ground.phase }, { on := 6, ground := Ground.phase }, { on := 7, ground := Ground.phase }, { on := 8, ground := Ground.phase }, { on := 9, ground := Ground.phase }, { on := 10, ground := Ground.phase }, { on := 11, ground := Ground.phase }, { on := 12, ground := Ground.phase }, { on := 13, ground := Ground.phase }, { on := 14, ground := Ground.phase }], guard := none }] true) (NoPanic Q) { tmps := #[v0, .string key, .string data, .pointer (some ⟨x, 0, none⟩), v4, v5, .pointer (some ⟨x + 1, 0, none⟩), .int .i64 k, .slice At ys.length ct, v9, v10, v11, v12, v13, v14, v15, v16, v17, v18, v19, v20, v21, v22, v23, v24, v25, v26, v27, v28, v29, v30, v31, v32, v33, v34, v35, v36, v37, v38, v39, v40, v41, v42, v43, v44, v45, v46, v47, v48, v49, undef, undef, undef, undef, undef, undef, undef, undef, undef, undef, undef, undef, undef, undef, undef, undef, undef, undef, undef, undef, undef], defers := [] } W := by
  have htl : (xs.take k).length = k := by simp; omega
  have OT := Lib.hid (ObjsAt.take hxs k); clear hxs
  have OY := Lib.hid hys; clear hys
  have HQ := Lib.hid hQ; clear hQ
  have hkc : k ≤ c := by omega
  have hx0 : x < W.heap.size := by omega
  have n0 : OwnSl GObj.vals 3 92 W.heap.size (W.drew.alloc (.cells #[] 92)) (.slice (some ⟨W.heap.size, 0, none⟩) 0 0) [] := own_lit W.drew W.heap.size (Nat.le_refl _)
  have n3 : OwnSl GObj.vals 3 92 W.heap.size ((W.drew.alloc (.cells #[.string key, .int .i64 next, .string data] 92)).alloc (.cells #[] 92)) (.slice (some ⟨W.heap.size + 1, 0, none⟩) 0 0) [] := by
    have := own_lit (W.drew.alloc (.cells #[.string key, .int .i64 next, .string data] 92)) W.heap.size (by simp)
    simpa using this
  have d1 : ∀ o, Below W.heap.size W (W.drew.alloc o) := fun o => (Below.refl _ _).drew.trans (bal (Below.refl _ W.drew) o)
  have d2 : ∀ o o', Below W.heap.size W ((W.drew.alloc o).alloc o') := fun o o' => bnext (d1 o) (bal (Below.refl _ _) o')
  have q1 : ObjsAt (W.drew.alloc (.cells #[.string key, .int .i64 next, .string data] 92)) (W.heap.size + 1) (some ⟨W.heap.size, 0, none⟩) [(⟨key, next, data⟩ : GObj)] := new_obj W.drew (⟨key, next, data⟩ : GObj)
  have q2 : ObjsAt ((W.drew.alloc (.cells #[] 92)).alloc (.cells #[.string key, .int .i64 next, .string data] 92)) (W.heap.size + 2) (some ⟨W.heap.size + 1, 0, none⟩) [(⟨key, next, data⟩ : GObj)] := by
    have := new_obj (W.drew.alloc (.cells #[] 92)) (⟨key, next, data⟩ : GObj)
    simpa using this
  have P1 := Lib.hid (show OwnSl GObj.vals 3 92 W.heap.size (W.drew.alloc (.cells #[] 92)) (.slice (some ⟨W.heap.size, 0, none⟩) 0 0) [] ∧ ObjsAt (W.drew.alloc (.cells #[] 92)) B (some ⟨b, off, none⟩) (xs.take k) ∧ True from ⟨n0, Sl.below OT.out (d1 _) hB, trivial⟩)
  have P2 := Lib.hid (show OwnSl GObj.vals 3 92 W.heap.size ((W.drew.alloc (.cells #[] 92)).alloc (.cells #[.string key, .int .i64 next, .string data] 92)) (.slice (some ⟨W.heap.size, 0, none⟩) 0 0) [] ∧ ObjsAt ((W.drew.alloc (.cells #[] 92)).alloc (.cells #[.string key, .int .i64 next, .string data] 92)) B (some ⟨b, off, none⟩) (xs.take k) ∧ ObjsAt ((W.drew.alloc (.cells #[] 92)).alloc (.cells #[.string key, .int .i64 next, .string data] 92)) (W.heap.size + 2) (some ⟨W.heap.size + 1, 0, none⟩) [(⟨key, next, data⟩ : GObj)] from ⟨World.ownsRow.alloc n0 _, Sl.below OT.out (d2 _ _) hB, q2⟩)
  have P3 := Lib.hid (show OwnSl GObj.vals 3 92 W.heap.size ((W.drew.alloc (.cells #[.string key, .int .i64 next, .string data] 92)).alloc (.cells #[] 92)) (.slice (some ⟨W.heap.size + 1, 0, none⟩) 0 0) [] ∧ ObjsAt ((W.drew.alloc (.cells #[.string key, .int .i64 next, .string data] 92)).alloc (.cells #[] 92)) B (some ⟨b, off, none⟩) (xs.take k) ∧ ObjsAt ((W.drew.alloc (.cells #[.string key, .int .i64 next, .string data] 92)).alloc (.cells #[] 92)) (W.heap.size + 1) (some ⟨W.heap.size, 0, none⟩) [(⟨key, next, data⟩ : GObj)] from ⟨n3, Sl.below OT.out (d2 _ _) hB, Sl.below q1 (bal (Below.refl _ _) _) (by simp)⟩)
  clear n0 n3 d1 d2 q1 q2
  go_region_law (first
    | (refine step_append_objs rfl _ _ rfl W.heap.size [] (xs.take k) (.slice (some ⟨W.heap.size, 0, none⟩) 0 0) rfl P1.out.1 (some ⟨b, off, none⟩) c B (by rw [htl]; rfl) P1.out.2.1 (by simp; omega) (by simp <;> omega) ?_; intro v1 w2 hO1 hg1; rw [List.nil_append] at hO1; have HO1 := Lib.hid hO1; clear hO1; have hb12 : Below W.heap.size W w2 := below_of_grown (grown_trans (World.grownBy_alloc W (.cells #[] 92) _) ⟨hg1.os, hg1.tape, hg1.output, hg1.size, hg1.block⟩) (Nat.le_refl _) (fun g e => (World.ownsRow.lt P1.out.1 g e).1); clear hg1; have u00 := (hb12.cell (p := ⟨x, 0, none⟩) hx0).trans t00; have u01 := (hb12.cell (p := ⟨x, 1, none⟩) hx0).trans t01; have hs2 := hb12.size)
    | (refine step_append_objs rfl _ _ rfl W.heap.size [] (xs.take k) (.slice (some ⟨W.heap.size, 0, none⟩) 0 0) rfl P2.out.1 (some ⟨b, off, none⟩) c B (by rw [htl]; rfl) P2.out.2.1 (by simp; omega) (by simp <;> omega) ?_; intro v1 w2 hO1 hg1; rw [List.nil_append] at hO1; have HO1 := Lib.hid hO1; clear hO1; have HOB := Lib.hid (Sl.grown P2.out.2.2 hg1 (by simp <;> omega) (.inr (by simp [blk, Value.ownBlock] <;> omega))); have hb12 : Below W.heap.size W w2 := below_of_grown (grown_trans (World.grownBy_alloc W (.cells #[] 92) _) (grown_trans (World.grownBy_alloc (W.alloc (.cells #[] 92)) (.cells #[.string key, .int .i64 next, .string data] 92) _) ⟨hg1.os, hg1.tape, hg1.output, hg1.size, hg1.block⟩)) (Nat.le_refl _) (fun g e => (World.ownsRow.lt P2.out.1 g e).1); clear hg1; have u00 := (hb12.cell (p := ⟨x, 0, none⟩) hx0).trans t00; have u01 := (hb12.cell (p := ⟨x, 1, none⟩) hx0).trans t01; have hs2 := hb12.size)
    | (refine step_append_objs rfl _ _ rfl W.heap.size [] (xs.take k) (.slice (some ⟨W.heap.size + 1, 0, none⟩) 0 0) rfl P3.out.1 (some ⟨b, off, none⟩) c B (by rw [htl]; rfl) P3.out.2.1 (by simp; omega) (by simp <;> omega) ?_; intro v1 w2 hO1 hg1; rw [List.nil_append] at hO1; have HO1 := Lib.hid hO1; clear hO1; have HOB := Lib.hid (Sl.grown P3.out.2.2 hg1 (by simp <;> omega) (.inr (by simp [blk, Value.ownBlock] <;> omega))); have hb12 : Below W.heap.size W w2 := below_of_grown (grown_trans (World.grownBy_alloc W (.cells #[.string key, .int .i64 next, .string data] 92) _) (grown_trans (World.grownBy_alloc (W.alloc (.cells #[.string key, .int .i64 next, .string data] 92)) (.cells #[] 92) _) ⟨hg1.os, hg1.tape, hg1.output, hg1.size, hg1.block⟩)) (Nat.le_refl _) (fun g e => (World.ownsRow.lt P3.out.1 g e).1); clear hg1; have u00 := (hb12.cell (p := ⟨x, 0, none⟩) hx0).trans t00; have u01 := (hb12.cell (p := ⟨x, 1, none⟩) hx0).trans t01; have hs2 := hb12.size)
    | (refine step_append_objs rfl _ _ rfl W.heap.size (xs.take k) [(⟨key, next, data⟩ : GObj)] v1 rfl (World.ownsRow.alloc HO1.out _) (some ⟨w2.heap.size, 0, none⟩) 1 _ rfl (new_obj w2 (⟨key, next, data⟩ : GObj)) (by rw [htl]; simp; omega) (by first | omega | (simp; omega)) ?_; intro v2 w3 hO2 hg2; have HO2 := Lib.hid hO2; clear hO2; have hb13 : Below W.heap.size W w3 := hb12.trans (below_of_grown (grown_trans (World.grownBy_alloc w2 (.cells #[.string key, .int .i64 next, .string data] 92) _) hg2) hs2 (fun g e => (World.ownsRow.lt HO1.out g e).1)); clear hg2; have hs3 := hb13.size)
    | (refine step_append_objs rfl _ _ rfl W.heap.size (xs.take k) [(⟨key, next, data⟩ : GObj)] v1 rfl HO1.out (some ⟨W.heap.size + 1, 0, none⟩) 1 _ rfl HOB.out (by rw [htl]; simp; omega) (by first | omega | (simp; omega)) ?_; intro v2 w3 hO2 hg2; have HO2 := Lib.hid hO2; clear hO2; have hb13 : Below W.heap.size W w3 := hb12.trans (below_of_grown hg2 hs2 (fun g e => (World.ownsRow.lt HO1.out g e).1)); clear hg2; have hs3 := hb13.size)
    | (refine step_append_objs rfl _ _ rfl W.heap.size (xs.take k) [(⟨key, next, data⟩ : GObj)] v1 rfl HO1.out (some ⟨W.heap.size, 0, none⟩) 1 _ rfl HOB.out (by rw [htl]; simp; omega) (by first | omega | (simp; omega)) ?_; intro v2 w3 hO2 hg2; have HO2 := Lib.hid hO2; clear hO2; have hb13 : Below W.heap.size W w3 := hb12.trans (below_of_grown hg2 hs2 (fun g e => (World.ownsRow.lt HO1.out g e).1)); clear hg2; have hs3 := hb13.size)
    | (refine step_append_objs rfl _ _ rfl W.heap.size (xs.take k ++ [(⟨key, next, data⟩ : GObj)]) ys v2 rfl HO2.out At ct B rfl (Sl.below OY.out hb13 hB) (by simp; omega) hs3 ?_; intro v3 w4 hO3 hg3; obtain ⟨A3, c3, hv3⟩ := hO3.form; obtain ⟨n3, hn3⟩ : ∃ n3, n3 = (xs.take k ++ [(⟨key, next, data⟩ : GObj)] ++ ys).length := ⟨_, rfl⟩; rw [← hn3] at hv3; subst hv3; have HN3 := Lib.hid hn3; clear hn3; have HO3 := Lib.hid hO3; clear hO3; have hb14 : Below W.heap.size W w4 := hb13.trans (below_of_grown hg3 hs3 (fun g e => (World.ownsRow.lt HO2.out g e).1)); clear hg3; have y00 := (hb14.cell (p := ⟨x, 0, none⟩) hx0).trans t00; have g00 := (hb14.frozen (p := ⟨x, 0, none⟩) hx0).trans f00))
  all_goals exact NoPanic.normal (HQ.out _ _ _ _ _ _ _ _ _ _ _ _ _ _ _ _ A3 c3 w4 n3 HN3.out HO3.out hb14)

end Go.Proofs.YthmpmagajbmpaaaGreatDoor

/- Contract of the model's l01Set. -/
namespace Go.Proofs.YthmpmagajbmpaaaGreatDoor
open Go.ChangeShapes Go.WideShapes Go.ChangeAt Go.RowKit Go.Maps
set_option linter.unusedVariables false

set_option maxRecDepth 100000 in
set_option maxHeartbeats 1000000 in
theorem specSet_any (b off c : Nat) (next : Int) (xs : List GObj) (key data : ByteArray) (B : Nat) (w : World) (h : ObjsAt w B (some ⟨b, off, none⟩) xs) (hB : B ≤ w.heap.size) (hl : xs.length ≤ 300) (hc : xs.length ≤ c) (hn : 0 ≤ next ∧ next ≤ 1000000000) (hk : key.size ≤ maxLen) :
    Calls Tryz.prog 132 #[.agg #[.slice (some ⟨b, off, none⟩) xs.length c, .int .i64 next], .string key, .string data] w fun e w' => ∃ v, e = .returned v ∧ NewSt (setL xs ⟨key, next, data⟩) (next + 1) w v w' := by
  have H := Lib.hid h; clear h
  have hwr : wrap64 (next + 1) = next + 1 := by simp only [wrap64]; omega
  go_enter Tryz.func132, Tryz.ntmps132
  go_wp2_with fail
  obtain ⟨W, hW⟩ : ∃ W, W = (w.alloc (.cells #[.slice (some ⟨b, off, none⟩) xs.length c, .int .i64 next] 51)).alloc (.cells #[.slice none 0 0, .int .i64 0] 51) := ⟨_, rfl⟩
  have t0 : Two W w.heap.size (.slice (some ⟨b, off, none⟩) xs.length c) (.int .i64 next) := by rw [hW]; exact (Two.new w _ _ _).alloc (by simp) _
  have t1 : Two W (w.heap.size + 1) (.slice none 0 0) (.int .i64 0) := by
    rw [hW]
    have := Two.new (w.alloc (.cells #[.slice (some ⟨b, off, none⟩) xs.length c, .int .i64 next] 51)) (.slice none 0 0) (.int .i64 0) 51
    simpa using this
  have f0 : ∀ b i, w.heap.size ≤ b → b < w.heap.size + 2 → W.frozen? ⟨b, i, none⟩ = false := fun b i h1 h2 => by
    rw [hW]
    have hb : b = w.heap.size ∨ b = w.heap.size + 1 := by omega
    rcases hb with rfl | rfl
    · have := free_alloc w #[.slice (some ⟨b, off, none⟩) xs.length c, .int .i64 next] 51 0 w.heap.size (by simp [blk]) i
      exact (((Below.refl _ _).alloc (Nat.le_refl _) _).frozen (p := ⟨w.heap.size, i, none⟩) (by simp)).trans this
    · exact free_alloc (w.alloc (.cells #[.slice (some ⟨b, off, none⟩) xs.length c, .int .i64 next] 51)) #[.slice none 0 0, .int .i64 0] 51 0 (w.heap.size + 1) (by simp [blk]) i
  have b0 : Below w.heap.size w W := by rw [hW]; exact bal (bal (Below.refl _ _) _) _
  have s0 : W.heap.size = w.heap.size + 2 := by rw [hW]; simp
  rw [← hW]
  clear hW
  have HW := Lib.hid (Sl.below H.out b0 hB)
  have T0 := Lib.hid t0; clear t0
  have T1 := Lib.hid t1; clear t1
  have F0 := Lib.hid f0; clear f0 H
  generalize hx : w.heap.size = x at *
  have Hx := Lib.hid hx; clear hx
  obtain ⟨t00, t01⟩ := T0.out
  have f00 := F0.out x 0 (by omega) (by omega)
  have T00 := Lib.hid t00
  have HC0 := Lib.hid hc
  go_loop [7] (fun i => ∃ k : Nat, k ≤ xs.length ∧ i = .int .i64 k ∧ Hid (∀ j (h : j < xs.length), j < k → kb xs[j] < kb (⟨key, next, data⟩ : GObj))) (fun i => xs.length - (intOf i).toNat)
  case atStart => exact ⟨0, by omega, rfl, Lib.hid (fun j _ h => by omega)⟩
  case round =>
    obtain ⟨k, hk2, rfl, Hn⟩ := hrel
    by_cases hlt : k < xs.length
    · obtain ⟨b', off', eA, hbB, p0, p1, p2⟩ := ObjsAt.obj HW.out hlt
      injection eA with eA
      injection eA with eA1 eA2
      subst eA1 eA2
      by_cases hbl : kb xs[k] < kb (⟨key, next, data⟩ : GObj)
      · have d : Op.bytesLess xs[k].key.toList key.toList = true := (bl_iff _ _).2 hbl
        have hn' : ∀ j (h : j < xs.length), j < k + 1 → kb xs[j] < kb (⟨key, next, data⟩ : GObj) := fun j hj hjk => by
          by_cases e : j = k
          · subst e; exact hbl
          · exact Hn.out j hj (by omega)
        have Hn2 := Lib.hid hn'; clear hn' hbl
        go_wp2
        go_round
        case rel => exact ⟨k + 1, by omega, by go_num, Hn2⟩
        case measure => simp [intOf]; omega
      · have d : Op.bytesLess xs[k].key.toList key.toList = false := by
          cases hh : Op.bytesLess xs[k].key.toList key.toList
          · rfl
          · exact absurd ((bl_iff _ _).1 hh) hbl
        have hset := setL_at (⟨key, next, data⟩ : GObj) xs k hk2 Hn.out (fun _ => hbl)
        by_cases he : xs[k].key = key
        · have hs1 := hset.1 hlt he
          have HS1 := Lib.hid hs1; clear hs1 hset
          have d2 : (xs[k].key.toList == key.toList) = true := by rw [he]; simp
          clear he hbl Hn
          by_cases hce : c = k + 1
          · have hxe : xs.length = k + 1 := by omega
            have hdn : xs.drop (k + 1) = [] := List.drop_eq_nil_of_le (by omega)
            have hs2 := HS1.out
            rw [hdn] at hs2
            clear HS1
            have HS1 := Lib.hid hs2; clear hs2 hdn
            subst hce
            rw [hxe] at t00
            have hq : (k : Int) ≤ (k : Int) + 1 := by omega
            go_wp2_with fail
            refine wp_region_noPanic (set_region _ _ _ _ _ _ _ _ _ _ _ _ _ _ _ _ _ _ _ _ _ _ _ _ _ _ _ _ _ _ _ _ _ _ _ _ _ _ _ _ _ _ _ _ key data x k (k + 1) _ b off B next _ xs [] W (by omega) hl HC0.out (by omega) (by omega) HW.out Sl.nil (by simp <;> omega) T00.out t01 f00 ?_)
            intro u50 u51 u52 u53 u54 u55 u56 u57 u58 u59 u60 u61 u62 u63 u64 u65 A3 c3 w3 n3 hn3 hO3 hb3
            have hnl : n3 = (setL xs ⟨key, next, data⟩).length := by rw [HS1.out]; exact hn3
            have HO3 : OwnSl GObj.vals 3 92 W.heap.size w3 (.slice A3 n3 c3) (setL xs ⟨key, next, data⟩) := by rw [HS1.out]; exact hO3
            have HNL := Lib.hid hnl; clear hnl hn3 hO3
            have T04 := (T0.out.below hb3 (by omega)).set0 (.slice A3 n3 c3)
            have T14 := (T1.out.below hb3 (by omega)).far (p := ⟨x, 0, none⟩) (by show x + 1 ≠ x; omega) (.slice A3 n3 c3)
            have g01 := (frozen_setCell w3 ⟨x, 0, none⟩ (.slice A3 n3 c3) ⟨x, 1, none⟩).trans ((hb3.frozen (p := ⟨x, 1, none⟩) (by show x < W.heap.size; omega)).trans (F0.out x 1 (by omega) (by omega)))
            have g10 := (frozen_setCell w3 ⟨x, 0, none⟩ (.slice A3 n3 c3) ⟨x + 1, 0, none⟩).trans ((hb3.frozen (p := ⟨x + 1, 0, none⟩) (by show x + 1 < W.heap.size; omega)).trans (F0.out (x + 1) 0 (by omega) (by omega)))
            have g11 := (frozen_setCell w3 ⟨x, 0, none⟩ (.slice A3 n3 c3) ⟨x + 1, 1, none⟩).trans ((hb3.frozen (p := ⟨x + 1, 1, none⟩) (by show x + 1 < W.heap.size; omega)).trans (F0.out (x + 1) 1 (by omega) (by omega)))
            have O4 := Lib.hid (HO3.far (p := ⟨x, 0, none⟩) (by show x < W.heap.size; omega) (.slice A3 n3 c3))
            have B4 : Below x w (w3.setCell ⟨x, 0, none⟩ (.slice A3 n3 c3)) := (b0.trans (hb3.mono (by omega))).setCell (p := ⟨x, 0, none⟩) (Nat.le_refl _) _
            clear t00 t01 f00 hb3 HO3 b0 T0 T1 F0 T00 HW HS1
            generalize w3.setCell ⟨x, 0, none⟩ (.slice A3 n3 c3) = w4 at *
            have T0F := Lib.hid (T04.set1 (.int .i64 (next + 1)))
            have T1F := Lib.hid (T14.far (p := ⟨x, 1, none⟩) (by show x + 1 ≠ x; omega) (.int .i64 (next + 1)))
            have OF := Lib.hid (O4.out.far (p := ⟨x, 1, none⟩) (by show x < W.heap.size; omega) (.int .i64 (next + 1)))
            have BF := Lib.hid (B4.setCell (p := ⟨x, 1, none⟩) (Nat.le_refl _) (.int .i64 (next + 1)))
            obtain ⟨q0, q1⟩ := T04
            obtain ⟨r0, r1⟩ := T14
            go_wp2
            obtain ⟨hsl, hfr, hbl, hcc⟩ := OwnSl.sl (c := c3) (A := A3) (by have := OF.out; rw [HNL.out] at this; exact this) vals_length
            obtain ⟨⟨z0, z1⟩, k1, k2, k3, k4⟩ := fin_store (w := w) T1F.out hsl hfr (fun b e => ⟨by have := (hbl b e).1; omega, (hbl b e).2⟩) (by rw [Hx.out]; exact BF.out) (by rw [Hx.out]; omega) (.slice A3 n3 c3) (.int .i64 (next + 1))
            clear q0 q1 r0 r1 g01 g10 g11 hsl hfr hbl OF BF T0F T1F O4 B4
            generalize ((w4.setCell ⟨x, 1, none⟩ (.int .i64 (next + 1))).setCell ⟨x + 1, 0, none⟩ (.slice A3 n3 c3)).setCell ⟨x + 1, 1, none⟩ (.int .i64 (next + 1)) = wF at *
            exact bodyPost_ret (v := .agg #[.slice A3 n3 c3, .int .i64 (next + 1)]) (by simp [results, Tryz.results132, go_sem, z0, z1]) rfl ⟨_, rfl, A3, c3, by rw [HNL.out], k1, k2, k3, hcc, k4⟩
          · have hdl : (xs.drop (k + 1)).length = xs.length - (k + 1) := by simp
            go_wp2_with fail
            rw [← hdl]
            refine wp_region_noPanic (set_region _ _ _ _ _ _ _ _ _ _ _ _ _ _ _ _ _ _ _ _ _ _ _ _ _ _ _ _ _ _ _ _ _ _ _ _ _ _ _ _ _ _ _ _ key data x k c _ b off B next _ xs (xs.drop (k + 1)) W (by omega) hl HC0.out (by omega) (by omega) HW.out (ObjsAt.drop HW.out (k + 1)) (by simp <;> omega) T00.out t01 f00 ?_)
            intro u50 u51 u52 u53 u54 u55 u56 u57 u58 u59 u60 u61 u62 u63 u64 u65 A3 c3 w3 n3 hn3 hO3 hb3
            have hnl : n3 = (setL xs ⟨key, next, data⟩).length := by rw [HS1.out]; exact hn3
            have HO3 : OwnSl GObj.vals 3 92 W.heap.size w3 (.slice A3 n3 c3) (setL xs ⟨key, next, data⟩) := by rw [HS1.out]; exact hO3
            have HNL := Lib.hid hnl; clear hnl hn3 hO3
            have T04 := (T0.out.below hb3 (by omega)).set0 (.slice A3 n3 c3)
            have T14 := (T1.out.below hb3 (by omega)).far (p := ⟨x, 0, none⟩) (by show x + 1 ≠ x; omega) (.slice A3 n3 c3)
            have g01 := (frozen_setCell w3 ⟨x, 0, none⟩ (.slice A3 n3 c3) ⟨x, 1, none⟩).trans ((hb3.frozen (p := ⟨x, 1, none⟩) (by show x < W.heap.size; omega)).trans (F0.out x 1 (by omega) (by omega)))
            have g10 := (frozen_setCell w3 ⟨x, 0, none⟩ (.slice A3 n3 c3) ⟨x + 1, 0, none⟩).trans ((hb3.frozen (p := ⟨x + 1, 0, none⟩) (by show x + 1 < W.heap.size; omega)).trans (F0.out (x + 1) 0 (by omega) (by omega)))
            have g11 := (frozen_setCell w3 ⟨x, 0, none⟩ (.slice A3 n3 c3) ⟨x + 1, 1, none⟩).trans ((hb3.frozen (p := ⟨x + 1, 1, none⟩) (by show x + 1 < W.heap.size; omega)).trans (F0.out (x + 1) 1 (by omega) (by omega)))
            have O4 := Lib.hid (HO3.far (p := ⟨x, 0, none⟩) (by show x < W.heap.size; omega) (.slice A3 n3 c3))
            have B4 : Below x w (w3.setCell ⟨x, 0, none⟩ (.slice A3 n3 c3)) := (b0.trans (hb3.mono (by omega))).setCell (p := ⟨x, 0, none⟩) (Nat.le_refl _) _
            clear t00 t01 f00 hb3 HO3 b0 T0 T1 F0 T00 HW HS1
            generalize w3.setCell ⟨x, 0, none⟩ (.slice A3 n3 c3) = w4 at *
            have T0F := Lib.hid (T04.set1 (.int .i64 (next + 1)))
            have T1F := Lib.hid (T14.far (p := ⟨x, 1, none⟩) (by show x + 1 ≠ x; omega) (.int .i64 (next + 1)))
            have OF := Lib.hid (O4.out.far (p := ⟨x, 1, none⟩) (by show x < W.heap.size; omega) (.int .i64 (next + 1)))
            have BF := Lib.hid (B4.setCell (p := ⟨x, 1, none⟩) (Nat.le_refl _) (.int .i64 (next + 1)))
            obtain ⟨q0, q1⟩ := T04
            obtain ⟨r0, r1⟩ := T14
            go_wp2
            obtain ⟨hsl, hfr, hbl, hcc⟩ := OwnSl.sl (c := c3) (A := A3) (by have := OF.out; rw [HNL.out] at this; exact this) vals_length
            obtain ⟨⟨z0, z1⟩, k1, k2, k3, k4⟩ := fin_store (w := w) T1F.out hsl hfr (fun b e => ⟨by have := (hbl b e).1; omega, (hbl b e).2⟩) (by rw [Hx.out]; exact BF.out) (by rw [Hx.out]; omega) (.slice A3 n3 c3) (.int .i64 (next + 1))
            clear q0 q1 r0 r1 g01 g10 g11 hsl hfr hbl OF BF T0F T1F O4 B4
            generalize ((w4.setCell ⟨x, 1, none⟩ (.int .i64 (next + 1))).setCell ⟨x + 1, 0, none⟩ (.slice A3 n3 c3)).setCell ⟨x + 1, 1, none⟩ (.int .i64 (next + 1)) = wF at *
            exact bodyPost_ret (v := .agg #[.slice A3 n3 c3, .int .i64 (next + 1)]) (by simp [results, Tryz.results132, go_sem, z0, z1]) rfl ⟨_, rfl, A3, c3, by rw [HNL.out], k1, k2, k3, hcc, k4⟩
        · have hs1 := hset.2 (fun _ => he)
          have HS1 := Lib.hid hs1; clear hs1 hset
          have d2 := ne_list he
          clear he hbl Hn
          have hdl : (xs.drop k).length = xs.length - k := by simp
          have hck : ¬ c = k := by omega
          go_wp2_with fail
          rw [← hdl]
          refine wp_region_noPanic (set_region _ _ _ _ _ _ _ _ _ _ _ _ _ _ _ _ _ _ _ _ _ _ _ _ _ _ _ _ _ _ _ _ _ _ _ _ _ _ _ _ _ _ _ _ key data x k c _ b off B next _ xs (xs.drop k) W (by omega) hl HC0.out (by omega) (by omega) HW.out (ObjsAt.drop HW.out k) (by simp <;> omega) T00.out t01 f00 ?_)
          intro u50 u51 u52 u53 u54 u55 u56 u57 u58 u59 u60 u61 u62 u63 u64 u65 A3 c3 w3 n3 hn3 hO3 hb3
          have hnl : n3 = (setL xs ⟨key, next, data⟩).length := by rw [HS1.out]; exact hn3
          have HO3 : OwnSl GObj.vals 3 92 W.heap.size w3 (.slice A3 n3 c3) (setL xs ⟨key, next, data⟩) := by rw [HS1.out]; exact hO3
          have HNL := Lib.hid hnl; clear hnl hn3 hO3
          have T04 := (T0.out.below hb3 (by omega)).set0 (.slice A3 n3 c3)
          have T14 := (T1.out.below hb3 (by omega)).far (p := ⟨x, 0, none⟩) (by show x + 1 ≠ x; omega) (.slice A3 n3 c3)
          have g01 := (frozen_setCell w3 ⟨x, 0, none⟩ (.slice A3 n3 c3) ⟨x, 1, none⟩).trans ((hb3.frozen (p := ⟨x, 1, none⟩) (by show x < W.heap.size; omega)).trans (F0.out x 1 (by omega) (by omega)))
          have g10 := (frozen_setCell w3 ⟨x, 0, none⟩ (.slice A3 n3 c3) ⟨x + 1, 0, none⟩).trans ((hb3.frozen (p := ⟨x + 1, 0, none⟩) (by show x + 1 < W.heap.size; omega)).trans (F0.out (x + 1) 0 (by omega) (by omega)))
          have g11 := (frozen_setCell w3 ⟨x, 0, none⟩ (.slice A3 n3 c3) ⟨x + 1, 1, none⟩).trans ((hb3.frozen (p := ⟨x + 1, 1, none⟩) (by show x + 1 < W.heap.size; omega)).trans (F0.out (x + 1) 1 (by omega) (by omega)))
          have O4 := Lib.hid (HO3.far (p := ⟨x, 0, none⟩) (by show x < W.heap.size; omega) (.slice A3 n3 c3))
          have B4 : Below x w (w3.setCell ⟨x, 0, none⟩ (.slice A3 n3 c3)) := (b0.trans (hb3.mono (by omega))).setCell (p := ⟨x, 0, none⟩) (Nat.le_refl _) _
          clear t00 t01 f00 hb3 HO3 b0 T0 T1 F0 T00 HW HS1
          generalize w3.setCell ⟨x, 0, none⟩ (.slice A3 n3 c3) = w4 at *
          have T0F := Lib.hid (T04.set1 (.int .i64 (next + 1)))
          have T1F := Lib.hid (T14.far (p := ⟨x, 1, none⟩) (by show x + 1 ≠ x; omega) (.int .i64 (next + 1)))
          have OF := Lib.hid (O4.out.far (p := ⟨x, 1, none⟩) (by show x < W.heap.size; omega) (.int .i64 (next + 1)))
          have BF := Lib.hid (B4.setCell (p := ⟨x, 1, none⟩) (Nat.le_refl _) (.int .i64 (next + 1)))
          obtain ⟨q0, q1⟩ := T04
          obtain ⟨r0, r1⟩ := T14
          go_wp2
          obtain ⟨hsl, hfr, hbl, hcc⟩ := OwnSl.sl (c := c3) (A := A3) (by have := OF.out; rw [HNL.out] at this; exact this) vals_length
          obtain ⟨⟨z0, z1⟩, k1, k2, k3, k4⟩ := fin_store (w := w) T1F.out hsl hfr (fun b e => ⟨by have := (hbl b e).1; omega, (hbl b e).2⟩) (by rw [Hx.out]; exact BF.out) (by rw [Hx.out]; omega) (.slice A3 n3 c3) (.int .i64 (next + 1))
          clear q0 q1 r0 r1 g01 g10 g11 hsl hfr hbl OF BF T0F T1F O4 B4
          generalize ((w4.setCell ⟨x, 1, none⟩ (.int .i64 (next + 1))).setCell ⟨x + 1, 0, none⟩ (.slice A3 n3 c3)).setCell ⟨x + 1, 1, none⟩ (.int .i64 (next + 1)) = wF at *
          exact bodyPost_ret (v := .agg #[.slice A3 n3 c3, .int .i64 (next + 1)]) (by simp [results, Tryz.results132, go_sem, z0, z1]) rfl ⟨_, rfl, A3, c3, by rw [HNL.out], k1, k2, k3, hcc, k4⟩
    · obtain rfl : k = xs.length := by omega
      have hset := setL_at (⟨key, next, data⟩ : GObj) xs xs.length hk2 Hn.out (fun h => by omega)
      have hs1 := hset.2 (fun h => by omega)
      rw [List.drop_length] at hs1
      have HS1 := Lib.hid hs1; clear hs1 hset Hn
      by_cases hce : c = xs.length
      · subst hce
        go_wp2_with fail
        refine wp_region_noPanic (set_region _ _ _ _ _ _ _ _ _ _ _ _ _ _ _ _ _ _ _ _ _ _ _ _ _ _ _ _ _ _ _ _ _ _ _ _ _ _ _ _ _ _ _ _ key data x xs.length xs.length _ b off B next _ xs [] W (by omega) hl HC0.out (by omega) (by omega) HW.out Sl.nil (by simp <;> omega) T00.out t01 f00 ?_)
        intro u50 u51 u52 u53 u54 u55 u56 u57 u58 u59 u60 u61 u62 u63 u64 u65 A3 c3 w3 n3 hn3 hO3 hb3
        have hnl : n3 = (setL xs ⟨key, next, data⟩).length := by rw [HS1.out]; exact hn3
        have HO3 : OwnSl GObj.vals 3 92 W.heap.size w3 (.slice A3 n3 c3) (setL xs ⟨key, next, data⟩) := by rw [HS1.out]; exact hO3
        have HNL := Lib.hid hnl; clear hnl hn3 hO3
        have T04 := (T0.out.below hb3 (by omega)).set0 (.slice A3 n3 c3)
        have T14 := (T1.out.below hb3 (by omega)).far (p := ⟨x, 0, none⟩) (by show x + 1 ≠ x; omega) (.slice A3 n3 c3)
        have g01 := (frozen_setCell w3 ⟨x, 0, none⟩ (.slice A3 n3 c3) ⟨x, 1, none⟩).trans ((hb3.frozen (p := ⟨x, 1, none⟩) (by show x < W.heap.size; omega)).trans (F0.out x 1 (by omega) (by omega)))
        have g10 := (frozen_setCell w3 ⟨x, 0, none⟩ (.slice A3 n3 c3) ⟨x + 1, 0, none⟩).trans ((hb3.frozen (p := ⟨x + 1, 0, none⟩) (by show x + 1 < W.heap.size; omega)).trans (F0.out (x + 1) 0 (by omega) (by omega)))
        have g11 := (frozen_setCell w3 ⟨x, 0, none⟩ (.slice A3 n3 c3) ⟨x + 1, 1, none⟩).trans ((hb3.frozen (p := ⟨x + 1, 1, none⟩) (by show x + 1 < W.heap.size; omega)).trans (F0.out (x + 1) 1 (by omega) (by omega)))
        have O4 := Lib.hid (HO3.far (p := ⟨x, 0, none⟩) (by show x < W.heap.size; omega) (.slice A3 n3 c3))
        have B4 : Below x w (w3.setCell ⟨x, 0, none⟩ (.slice A3 n3 c3)) := (b0.trans (hb3.mono (by omega))).setCell (p := ⟨x, 0, none⟩) (Nat.le_refl _) _
        clear t00 t01 f00 hb3 HO3 b0 T0 T1 F0 T00 HW HS1
        generalize w3.setCell ⟨x, 0, none⟩ (.slice A3 n3 c3) = w4 at *
        have T0F := Lib.hid (T04.set1 (.int .i64 (next + 1)))
        have T1F := Lib.hid (T14.far (p := ⟨x, 1, none⟩) (by show x + 1 ≠ x; omega) (.int .i64 (next + 1)))
        have OF := Lib.hid (O4.out.far (p := ⟨x, 1, none⟩) (by show x < W.heap.size; omega) (.int .i64 (next + 1)))
        have BF := Lib.hid (B4.setCell (p := ⟨x, 1, none⟩) (Nat.le_refl _) (.int .i64 (next + 1)))
        obtain ⟨q0, q1⟩ := T04
        obtain ⟨r0, r1⟩ := T14
        go_wp2
        obtain ⟨hsl, hfr, hbl, hcc⟩ := OwnSl.sl (c := c3) (A := A3) (by have := OF.out; rw [HNL.out] at this; exact this) vals_length
        obtain ⟨⟨z0, z1⟩, k1, k2, k3, k4⟩ := fin_store (w := w) T1F.out hsl hfr (fun b e => ⟨by have := (hbl b e).1; omega, (hbl b e).2⟩) (by rw [Hx.out]; exact BF.out) (by rw [Hx.out]; omega) (.slice A3 n3 c3) (.int .i64 (next + 1))
        clear q0 q1 r0 r1 g01 g10 g11 hsl hfr hbl OF BF T0F T1F O4 B4
        generalize ((w4.setCell ⟨x, 1, none⟩ (.int .i64 (next + 1))).setCell ⟨x + 1, 0, none⟩ (.slice A3 n3 c3)).setCell ⟨x + 1, 1, none⟩ (.int .i64 (next + 1)) = wF at *
        exact bodyPost_ret (v := .agg #[.slice A3 n3 c3, .int .i64 (next + 1)]) (by simp [results, Tryz.results132, go_sem, z0, z1]) rfl ⟨_, rfl, A3, c3, by rw [HNL.out], k1, k2, k3, hcc, k4⟩
      · go_wp2_with fail
        refine wp_region_noPanic (set_region _ _ _ _ _ _ _ _ _ _ _ _ _ _ _ _ _ _ _ _ _ _ _ _ _ _ _ _ _ _ _ _ _ _ _ _ _ _ _ _ _ _ _ _ key data x xs.length c _ b off B next _ xs [] W (by omega) hl HC0.out (by omega) (by omega) HW.out Sl.nil (by simp <;> omega) T00.out t01 f00 ?_)
        intro u50 u51 u52 u53 u54 u55 u56 u57 u58 u59 u60 u61 u62 u63 u64 u65 A3 c3 w3 n3 hn3 hO3 hb3
        have hnl : n3 = (setL xs ⟨key, next, data⟩).length := by rw [HS1.out]; exact hn3
        have HO3 : OwnSl GObj.vals 3 92 W.heap.size w3 (.slice A3 n3 c3) (setL xs ⟨key, next, data⟩) := by rw [HS1.out]; exact hO3
        have HNL := Lib.hid hnl; clear hnl hn3 hO3
        have T04 := (T0.out.below hb3 (by omega)).set0 (.slice A3 n3 c3)
        have T14 := (T1.out.below hb3 (by omega)).far (p := ⟨x, 0, none⟩) (by show x + 1 ≠ x; omega) (.slice A3 n3 c3)
        have g01 := (frozen_setCell w3 ⟨x, 0, none⟩ (.slice A3 n3 c3) ⟨x, 1, none⟩).trans ((hb3.frozen (p := ⟨x, 1, none⟩) (by show x < W.heap.size; omega)).trans (F0.out x 1 (by omega) (by omega)))
        have g10 := (frozen_setCell w3 ⟨x, 0, none⟩ (.slice A3 n3 c3) ⟨x + 1, 0, none⟩).trans ((hb3.frozen (p := ⟨x + 1, 0, none⟩) (by show x + 1 < W.heap.size; omega)).trans (F0.out (x + 1) 0 (by omega) (by omega)))
        have g11 := (frozen_setCell w3 ⟨x, 0, none⟩ (.slice A3 n3 c3) ⟨x + 1, 1, none⟩).trans ((hb3.frozen (p := ⟨x + 1, 1, none⟩) (by show x + 1 < W.heap.size; omega)).trans (F0.out (x + 1) 1 (by omega) (by omega)))
        have O4 := Lib.hid (HO3.far (p := ⟨x, 0, none⟩) (by show x < W.heap.size; omega) (.slice A3 n3 c3))
        have B4 : Below x w (w3.setCell ⟨x, 0, none⟩ (.slice A3 n3 c3)) := (b0.trans (hb3.mono (by omega))).setCell (p := ⟨x, 0, none⟩) (Nat.le_refl _) _
        clear t00 t01 f00 hb3 HO3 b0 T0 T1 F0 T00 HW HS1
        generalize w3.setCell ⟨x, 0, none⟩ (.slice A3 n3 c3) = w4 at *
        have T0F := Lib.hid (T04.set1 (.int .i64 (next + 1)))
        have T1F := Lib.hid (T14.far (p := ⟨x, 1, none⟩) (by show x + 1 ≠ x; omega) (.int .i64 (next + 1)))
        have OF := Lib.hid (O4.out.far (p := ⟨x, 1, none⟩) (by show x < W.heap.size; omega) (.int .i64 (next + 1)))
        have BF := Lib.hid (B4.setCell (p := ⟨x, 1, none⟩) (Nat.le_refl _) (.int .i64 (next + 1)))
        obtain ⟨q0, q1⟩ := T04
        obtain ⟨r0, r1⟩ := T14
        go_wp2
        obtain ⟨hsl, hfr, hbl, hcc⟩ := OwnSl.sl (c := c3) (A := A3) (by have := OF.out; rw [HNL.out] at this; exact this) vals_length
        obtain ⟨⟨z0, z1⟩, k1, k2, k3, k4⟩ := fin_store (w := w) T1F.out hsl hfr (fun b e => ⟨by have := (hbl b e).1; omega, (hbl b e).2⟩) (by rw [Hx.out]; exact BF.out) (by rw [Hx.out]; omega) (.slice A3 n3 c3) (.int .i64 (next + 1))
        clear q0 q1 r0 r1 g01 g10 g11 hsl hfr hbl OF BF T0F T1F O4 B4
        generalize ((w4.setCell ⟨x, 1, none⟩ (.int .i64 (next + 1))).setCell ⟨x + 1, 0, none⟩ (.slice A3 n3 c3)).setCell ⟨x + 1, 1, none⟩ (.int .i64 (next + 1)) = wF at *
        exact bodyPost_ret (v := .agg #[.slice A3 n3 c3, .int .i64 (next + 1)]) (by simp [results, Tryz.results132, go_sem, z0, z1]) rfl ⟨_, rfl, A3, c3, by rw [HNL.out], k1, k2, k3, hcc, k4⟩

end Go.Proofs.YthmpmagajbmpaaaGreatDoor

/- Contracts of the model's l01Absent and PutAbsent. -/
namespace Go.Proofs.YthmpmagajbmpaaaGreatDoor
open Go.ChangeShapes Go.WideShapes Go.ChangeAt Go.RowKit Go.Maps
set_option linter.unusedVariables false

/-- what l01Absent says -/
def AbsC (xs : List GObj) (next : Int) (key data : ByteArray) (L : List GObj) (nx code : Int) : Prop :=
  (look xs key ≠ none ∧ L = xs ∧ nx = next ∧ code = 9) ∨ (look xs key = none ∧ ∃ ver, PutP xs next key data ver code L nx ∧ (code = 0 → ver = next) ∧ (code ≠ 0 → ver = 0))

/-- a store and a code are answered; of the memory: only that the store can be read -/
def StS (R : List GObj → Int → Int → Prop) (w : World) (e : Ending) (w' : World) : Prop :=
  ∃ (L : List GObj) (nx code : Int) (A : Option Addr) (c : Nat), R L nx code ∧ e = .returned (.tuple #[.agg #[.slice A L.length c, .int .i64 nx], .int .i64 code]) ∧ ObjsAt w' w'.heap.size A L ∧ Below w.heap.size w w'

theorem RoomP.put {xs : List GObj} {next : Int} {key data : ByteArray} {code : Int} (h : RoomP xs next key data code) (hz : code ≠ 0) : PutP xs next key data 0 code xs next := by
  rcases h with ⟨h1, rfl⟩ | ⟨h1, h2, rfl⟩ | ⟨h1, h2, rfl⟩
  · exact .inl ⟨h1, rfl, rfl, rfl, rfl⟩
  · exact .inr (.inl ⟨h1, h2, rfl, rfl, rfl, rfl⟩)
  · exact absurd rfl hz

theorem RoomP.put0 {xs : List GObj} {next : Int} {key data : ByteArray} (h : RoomP xs next key data 0) : PutP xs next key data next 0 (setL xs ⟨key, next, data⟩) (next + 1) := by
  rcases h with ⟨h1, h2⟩ | ⟨h1, h2, h3⟩ | ⟨h1, h2, _⟩
  · cases h2
  · cases h3
  · exact .inr (.inr ⟨h1, h2, rfl, rfl, rfl, rfl⟩)

set_option maxRecDepth 100000 in
set_option maxHeartbeats 1000000 in
theorem specAbsent_any (b off c : Nat) (next : Int) (xs : List GObj) (key data : ByteArray) (B : Nat) (w : World) (h : ObjsAt w B (some ⟨b, off, none⟩) xs) (hB : B ≤ w.heap.size) (hS : StoreP xs next) (hc : xs.length ≤ c) (hk : key.size ≤ maxLen) (hd : data.size ≤ maxLen) :
    Calls Tryz.prog 92 #[.agg #[.slice (some ⟨b, off, none⟩) xs.length c, .int .i64 next], .string key, .string data] w (StS (AbsC xs next key data) w) := by
  have H := Lib.hid h; clear h
  have hl := hS.2.2.1
  have hnx : 0 ≤ next ∧ next ≤ 1000000000 := ⟨by have := hS.1; omega, hS.2.1⟩
  clear hS
  go_enter Tryz.func92, Tryz.ntmps92
  go_wp2_with fail
  obtain ⟨W, hW⟩ : ∃ W, W = (w.alloc (.cells #[.slice (some ⟨b, off, none⟩) xs.length c, .int .i64 next] 51)).alloc (.cells #[.slice none 0 0, .int .i64 0] 51) := ⟨_, rfl⟩
  have t0 : Two W w.heap.size (.slice (some ⟨b, off, none⟩) xs.length c) (.int .i64 next) := by rw [hW]; exact (Two.new w _ _ _).alloc (by simp) _
  have t1 : Two W (w.heap.size + 1) (.slice none 0 0) (.int .i64 0) := by
    rw [hW]
    have := Two.new (w.alloc (.cells #[.slice (some ⟨b, off, none⟩) xs.length c, .int .i64 next] 51)) (.slice none 0 0) (.int .i64 0) 51
    simpa using this
  have f1 : ∀ i, W.frozen? ⟨w.heap.size + 1, i, none⟩ = false := fun i => by
    rw [hW]
    exact free_alloc (w.alloc (.cells #[.slice (some ⟨b, off, none⟩) xs.length c, .int .i64 next] 51)) #[.slice none 0 0, .int .i64 0] 51 0 (w.heap.size + 1) (by simp [blk]) i
  have b0 : Below w.heap.size w W := by rw [hW]; exact bal (bal (Below.refl _ _) _) _
  have s0 : W.heap.size = w.heap.size + 2 := by rw [hW]; simp
  rw [← hW]
  clear hW
  have T0 := Lib.hid t0; clear t0
  have T1 := Lib.hid t1; clear t1
  have F1 := Lib.hid f1; clear f1
  generalize hx : w.heap.size = x at *
  have Hx := Lib.hid hx; clear hx
  have hend : ∀ w1 code, Below x w w1 → W.heap.size ≤ w1.heap.size → Below W.heap.size W w1 → AbsC xs next key data xs next code → Two ((w1.setCell ⟨x + 1, 0, none⟩ (.slice (some ⟨b, off, none⟩) xs.length c)).setCell ⟨x + 1, 1, none⟩ (.int .i64 next)) (x + 1) (.slice (some ⟨b, off, none⟩) xs.length c) (.int .i64 next) ∧ StS (AbsC xs next key data) w (.returned (.tuple #[.agg #[.slice (some ⟨b, off, none⟩) xs.length c, .int .i64 next], .int .i64 code])) ((w1.setCell ⟨x + 1, 0, none⟩ (.slice (some ⟨b, off, none⟩) xs.length c)).setCell ⟨x + 1, 1, none⟩ (.int .i64 next)) := by
    intro w1 code hb hs hbW ha
    refine ⟨((T1.out.below hbW (by omega)).set0 _).set1 _, xs, next, code, some ⟨b, off, none⟩, c, ha, rfl, ?_, ?_⟩
    · rw [size_setCell, size_setCell]
      refine Sl.more (B := B) ?_ (by omega)
      refine (Sl.below H.out hb hB).keep fun b i e hlt => ?_
      rw [World.cell?_setCell_other _ _ _ _ (fun e => by injection e with e; omega), World.cell?_setCell_other _ _ _ _ (fun e => by injection e with e; omega)]
    · rw [Hx.out]
      exact (hb.setCell (p := ⟨x + 1, 0, none⟩) (by show x ≤ x + 1; omega) _).setCell (p := ⟨x + 1, 1, none⟩) (by show x ≤ x + 1; omega) _
  have HE := Lib.hid hend; clear hend
  refine (find_any (some ⟨b, off, none⟩) c next xs key B W (Sl.below H.out b0 hB) (by omega) (by omega)).mono ?_
  rintro e w1 ⟨v, hv, rfl, hb1⟩
  have s1 := hb1.size
  have b1 : Below x w w1 := b0.trans (hb1.mono (by omega))
  obtain ⟨t00, t01⟩ := T0.out.below hb1 (by omega)
  obtain ⟨t10, t11⟩ := T1.out.below hb1 (by omega)
  have f10 := (hb1.frozen (p := ⟨x + 1, 0, none⟩) (by show x + 1 < W.heap.size; omega)).trans (F1.out 0)
  have f11 := (hb1.frozen (p := ⟨x + 1, 1, none⟩) (by show x + 1 < W.heap.size; omega)).trans (F1.out 1)
  rcases look_of_find hv with ⟨hneg, hlo⟩ | ⟨i, hi, rfl, hlo⟩
  · have d2 : decide (0 ≤ v) = false := by simp; omega
    clear hv
    have HL := Lib.hid hlo; clear hlo
    go_wp2_with fail
    refine (specRoom_any (some ⟨b, off, none⟩) c next xs key data B w1 (Sl.below H.out b1 hB) (by omega) hl hnx.2 hd).mono ?_
    rintro e w2 ⟨code, hro, rfl, hb2⟩
    have s2 := hb2.size
    have hb12 : Below W.heap.size W w2 := hb1.trans (hb2.mono s1)
    have b2 : Below x w w2 := b1.trans (hb2.mono (by omega))
    clear t00 t01 t10 t11 f10 f11 hb2 hb1 b1
    obtain ⟨t00, t01⟩ := T0.out.below hb12 (by omega)
    obtain ⟨t10, t11⟩ := T1.out.below hb12 (by omega)
    have f10 := (hb12.frozen (p := ⟨x + 1, 0, none⟩) (by show x + 1 < W.heap.size; omega)).trans (F1.out 0)
    have f11 := (hb12.frozen (p := ⟨x + 1, 1, none⟩) (by show x + 1 < W.heap.size; omega)).trans (F1.out 1)
    by_cases hz : code = 0
    · subst hz
      have hp : AbsC xs next key data (setL xs ⟨key, next, data⟩) (next + 1) 0 := .inr ⟨HL.out, next, hro.put0, fun _ => rfl, fun h => absurd rfl h⟩
      have HP := Lib.hid hp; clear hp hro
      go_wp2_with fail
      refine (specSet_any b off c next xs key data B w2 (Sl.below H.out b2 hB) (by omega) hl hc hnx hk).mono ?_
      rintro e w3 ⟨v, rfl, A', c', rfl, hsl, hfr, hbl, hcc, hb3⟩
      have s3 := hb3.size
      have hb13 : Below W.heap.size W w3 := hb12.trans (hb3.mono (by omega))
      have b3 : Below x w w3 := b2.trans (hb3.mono (by omega))
      clear t00 t01 t10 t11 f10 f11 hb3 hb12 b2
      have T1N := T1.out.below hb13 (by omega)
      obtain ⟨t10, t11⟩ := T1.out.below hb13 (by omega)
      have f10 := (hb13.frozen (p := ⟨x + 1, 0, none⟩) (by show x + 1 < W.heap.size; omega)).trans (F1.out 0)
      have f11 := (hb13.frozen (p := ⟨x + 1, 1, none⟩) (by show x + 1 < W.heap.size; omega)).trans (F1.out 1)
      go_wp2
      obtain ⟨⟨z0, z1⟩, r1, r2, r3, r4⟩ := fin_store (w := w) T1N hsl hfr (fun b e => ⟨by have := (hbl b e).1; omega, (hbl b e).2⟩) (by rw [Hx.out]; exact b3) (by rw [Hx.out]; omega) (.slice A' (setL xs ⟨key, next, data⟩).length c') (.int .i64 (next + 1))
      clear t10 t11 f10 f11
      generalize (w3.setCell ⟨x + 1, 0, none⟩ (.slice A' (setL xs ⟨key, next, data⟩).length c')).setCell ⟨x + 1, 1, none⟩ (.int .i64 (next + 1)) = wF at *
      exact bodyPost_ret (v := .tuple #[.agg #[.slice A' (setL xs ⟨key, next, data⟩).length c', .int .i64 (next + 1)], .int .i64 0]) (by simp [results, Tryz.results92, go_sem, z0, z1]) rfl ⟨_, _, 0, A', c', HP.out, rfl, r1, r4⟩
    · have hp : AbsC xs next key data xs next code := .inr ⟨HL.out, 0, hro.put hz, fun h => absurd h hz, fun _ => rfl⟩
      have d3 : (code != 0) = true := by simpa using hz
      have d4 : (code == 0) = false := by simpa using hz
      obtain ⟨⟨z0, z1⟩, hend⟩ := HE.out w2 code b2 (by omega) hb12 hp
      have HZ := Lib.hid (And.intro z0 z1)
      have HEND := Lib.hid hend
      clear hro hz hp z0 z1 hend
      go_wp2
      obtain ⟨z0, z1⟩ := HZ.out
      have hend := HEND.out
      clear t00 t01 t10 t11 f10 f11 HEND HZ
      generalize (w2.setCell ⟨x + 1, 0, none⟩ (.slice (some ⟨b, off, none⟩) xs.length c)).setCell ⟨x + 1, 1, none⟩ (.int .i64 next) = wF at *
      exact bodyPost_ret (v := .tuple #[.agg #[.slice (some ⟨b, off, none⟩) xs.length c, .int .i64 next], .int .i64 code]) (by simp [results, Tryz.results92, go_sem, z0, z1]) rfl hend
  · have d2 : decide (0 ≤ (i : Int)) = true := by simp
    have hp : AbsC xs next key data xs next 9 := .inl ⟨by rw [hlo]; simp, rfl, rfl, rfl⟩
    obtain ⟨⟨z0, z1⟩, hend⟩ := HE.out w1 9 b1 (by omega) hb1 hp
    have HZ := Lib.hid (And.intro z0 z1)
    have HEND := Lib.hid hend
    clear hv hlo hp z0 z1 hend
    go_wp2
    obtain ⟨z0, z1⟩ := HZ.out
    have hend := HEND.out
    clear t00 t01 t10 t11 f10 f11 HEND HZ
    generalize (w1.setCell ⟨x + 1, 0, none⟩ (.slice (some ⟨b, off, none⟩) xs.length c)).setCell ⟨x + 1, 1, none⟩ (.int .i64 next) = wF at *
    exact bodyPost_ret (v := .tuple #[.agg #[.slice (some ⟨b, off, none⟩) xs.length c, .int .i64 next], .int .i64 9]) (by simp [results, Tryz.results92, go_sem, z0, z1]) rfl hend

end Go.Proofs.YthmpmagajbmpaaaGreatDoor
