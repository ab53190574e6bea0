/-
  Several texts as one: contracts that the law leans on; each part says what it proves and its conditions.
-/
import Derived.Test.YthmpmagajbmpaaaGreatDoorM1
import Derived.Test.YthmpmagajbmpaaaGreatDoorRdKey
import Derived.Test.YthmpmagajbmpaaaGreatDoorKeyOK
import Derived.Test.YthmpmagajbmpaaaGreatDoorM2
import Derived.Deep.DeepCutAuto
import Derived.Deep.RegionHeld3
import Derived.Test.YthmpmagajbmpaaaGreatDoorOpenSl
import Derived.Deep.Slices
import Derived.Deep.Fields
import Derived.Deep.Strs
import Derived.Lib.SmallJoins
import Derived.Test.YthmpmagajbmpaaaGreatDoorTxt
import Derived.ChangeVars
import Derived.SevenTiedAt
import Derived.LaidOnce
import Derived.Lib.LaidTab
import Derived.Test.YthmpmagajbmpaaaGreatDoorTie
import Derived.Test.YthmpmagajbmpaaaGreatDoorKeyI
import Derived.WalkSmall
import Derived.Test.YthmpmagajbmpaaaGreatDoorTierA
import Derived.Test.YthmpmagajbmpaaaGreatDoorRecs
import Derived.Laws.IdiomArrays

/- Reading a record's text: what the parts at the first blank say of it; a record's variable of zeros. No Go text is walked here. -/
namespace Go.Proofs.YthmpmagajbmpaaaGreatDoor
open Go.ChangeShapes Go.WideShapes Go.ChangeAt Go.RowKit Go.Deep Go.Joins
set_option linter.unusedVariables false
set_option linter.unusedSimpArgs false

theorem sixT_digR {b : UInt8} {n : Nat} (h : b ∈ (sixT n).data.toList) : keyB (b.toNat : Int) = true := by
  have one : ∀ k : Nat, k < 10 → keyB ((UInt8.ofNat (48 + k)).toNat : Int) = true := by
    intro k hk
    have : (UInt8.ofNat (48 + k)).toNat = 48 + k := by simp; omega
    rw [this]
    simp only [keyB, decide_eq_true_eq]
    omega
  simp only [sixT, List.mem_cons, List.not_mem_nil, or_false] at h
  rcases h with rfl | rfl | rfl | rfl | rfl | rfl <;> exact one _ (Nat.mod_lt _ (by omega))

theorem key_noblank {key : ByteArray} {t n m : Int} (h : IsKey key t n m) : (32 : UInt8) ∉ key.data.toList := by
  have hk := (key_list h).1
  rw [hk]
  have h6 : ∀ k : Nat, (32 : UInt8) ∉ sixL k := fun k hm => by
    have := sixT_digR (n := k) hm
    revert this; decide
  have hp : ∀ k, (32 : UInt8) ∉ pathL k := fun k => by
    match k with
    | 0 => decide
    | 1 => decide
    | _ + 2 =>
      show (32 : UInt8) ∉ pathL 2
      decide
  intro hm
  rcases List.mem_append.1 hm with hm | hm
  · exact hp _ hm
  rcases List.mem_append.1 hm with hm | hm
  · exact h6 _ hm
  rcases List.mem_append.1 hm with hm | hm
  · revert hm; decide
  · exact h6 _ hm

theorem RecP.noblank {r : GRec} (h : RecP r) : (32 : UInt8) ∉ r.key.data.toList := by
  rcases h with ⟨_, _, _, h⟩ | ⟨_, _, _, _, _, h⟩ | ⟨_, _, _, h⟩ | ⟨_, _, h⟩ | ⟨_, _, _, _, _, h⟩
  · obtain ⟨t, n, m, h⟩ := h.key; exact key_noblank h
  · rw [h]; intro h; cases h
  · obtain ⟨t, n, m, h⟩ := h.key; exact key_noblank h
  · obtain ⟨t, n, m, h⟩ := h.key; exact key_noblank h
  · obtain ⟨t, n, m, h⟩ := h; exact key_noblank h

theorem recT_cut {r : GRec} (h : RecP r) : CutOf (recT r) 32 [joinT (r.nums.map numT) comma] r.key :=
  ⟨by rw [recT_list]; simp [flatC], fun p hp => by simp at hp; subst hp; exact head_noblank r, h.noblank⟩

/-- a text that is not two parts is no record's -/
theorem noRec_cut {t : ByteArray} {ps : List ByteArray} {last : ByteArray} (h : CutOf t 32 ps last) (hn : ps.length ≠ 1) : NoRec t := by
  rintro r ⟨hp, rfl⟩
  obtain ⟨e, _⟩ := CutOf.one (t := recT r) (recT_cut hp) h
  rw [← e] at hn
  exact hn rfl

theorem recRead_cut {t p last : ByteArray} {r : GRec} (h : CutOf t 32 [p] last) (hr : RecRead t r) : NumsOf p 44 r.nums ∧ r.key = last := by
  obtain ⟨hp, rfl⟩ := hr
  obtain ⟨e, e2⟩ := CutOf.one (t := recT r) (recT_cut hp) h
  simp at e
  exact ⟨e ▸ nums5_of r, e2⟩

theorem noRec_nums {t p last : ByteArray} (h : CutOf t 32 [p] last) (hno : ∀ ms, ms.length = 5 → (∀ m ∈ ms, Small m) → ¬ NumsOf p 44 ms) : NoRec t := fun r hr =>
  hno r.nums rfl (recP_small hr.1) (recRead_cut h hr).1

theorem noRec_bad {t p : ByteArray} {r : GRec} (h : CutOf t 32 [p] r.key) (hN : NumsOf p 44 r.nums) (hf : ∀ n ∈ r.nums, FitI n) (hp : ¬ RecP r) : NoRec t := fun s hs => by
  obtain ⟨h1, h2⟩ := recRead_cut h hs
  have := nums_one comma_no hN h1 hf (fun n hn => small_fitI (recP_small hs.1 n hn))
  apply hp
  obtain ⟨a0, a1, a2, a3, a4, a5⟩ := r
  obtain ⟨b0, b1, b2, b3, b4, b5⟩ := s
  simp [GRec.nums] at this h2
  obtain ⟨rfl, rfl, rfl, rfl, rfl⟩ := this
  subst h2
  exact hs.1

theorem recRead_ok {t p : ByteArray} {r : GRec} (h : CutOf t 32 [p] r.key) (hN : NumsOf p 44 r.nums) (hp : RecP r) : RecRead t r :=
  ⟨hp, recRead_of (b := r.key) (by rw [h.1]; simp [flatC]) hN rfl⟩

/-- what the model's reading of a record's text answers -/
def RecRd (t : ByteArray) (r : GRec) (b : Bool) : Prop := (b = true ∧ RecRead t r) ∨ (b = false ∧ r = zRec ∧ NoRec t)

theorem five_list {ns : List Int} (h : ns.length = 5) (key : ByteArray) : ∃ r : GRec, r.nums = ns ∧ r.key = key := by
  match ns, h with
  | [a, b, c, d, e], _ => exact ⟨⟨a, b, c, d, e, key⟩, rfl, rfl⟩

theorem nums_cells5 {w : World} {B b o : Nat} {r : GRec} (h : Sl niV 1 w B (some ⟨b, o, none⟩) r.nums) : (w.cell? ⟨b, o, none⟩ = some (.int .i64 r.kind) ∧ w.cell? ⟨b, o + 1, none⟩ = some (.int .i64 r.tok) ∧ w.cell? ⟨b, o + 2, none⟩ = some (.int .i64 r.tier) ∧ w.cell? ⟨b, o + 3, none⟩ = some (.int .i64 r.beg) ∧ w.cell? ⟨b, o + 4, none⟩ = some (.int .i64 r.fin)) ∧ b < B := by
  obtain ⟨b', o', e, hb, hc⟩ := h (by simp [GRec.nums])
  injection e with e
  injection e with e1 e2
  subst e1 e2
  exact ⟨⟨hc 0 (by simp [GRec.nums]) 0 _ rfl, hc 1 (by simp [GRec.nums]) 0 _ rfl, hc 2 (by simp [GRec.nums]) 0 _ rfl, hc 3 (by simp [GRec.nums]) 0 _ rfl, hc 4 (by simp [GRec.nums]) 0 _ rfl⟩, hb⟩

/-- a record's variable, of zeros, in block x -/
def ZeroR (w : World) (x : Nat) : Prop := RecAt w x zRec ∧ Free w (some ⟨x, 0, none⟩) ∧ x < w.heap.size

theorem ZeroR.new (w : World) (t : TypeId) : ZeroR (w.alloc (.cells #[.int .i64 0, .int .i64 0, .int .i64 0, .int .i64 0, .int .i64 0, .string ⟨#[]⟩] t)) w.heap.size := ⟨RecAt.new w zRec t, free_alloc w _ t 0, by simp⟩

theorem ZeroR.below {w w' : World} {x B : Nat} (h : ZeroR w x) (hb : Below B w w') (hB : x < B) : ZeroR w' x :=
  ⟨h.1.below hb hB, h.2.1.below hb (fun b e => by simp [blk] at e; omega), Nat.lt_of_lt_of_le h.2.2 hb.size⟩

theorem ZeroR.grown {w w' : World} {x : Nat} {row : Option Nat} (h : ZeroR w x) (hg : w.grownBy w' row) (hr : some x ≠ row) : ZeroR w' x := by
  have hblk := hg.block x h.2.2 hr
  refine ⟨fun j v hv => (World.cell?_of_block (a := ⟨x, 0 + j, none⟩) hblk).trans (h.1 j v hv), fun b e i => ?_, Nat.lt_of_lt_of_le h.2.2 hg.size⟩
  simp [blk] at e
  subst e
  exact (World.frozen?_of_block (a := ⟨x, i, none⟩) hblk).trans (h.2.1 x rfl i)

theorem ZeroR.cells {w : World} {n : Nat} (h : ZeroR w n) : (w.cell? ⟨n, 0, none⟩ = some (.int .i64 0) ∧ w.cell? ⟨n, 1, none⟩ = some (.int .i64 0) ∧ w.cell? ⟨n, 2, none⟩ = some (.int .i64 0) ∧ w.cell? ⟨n, 3, none⟩ = some (.int .i64 0) ∧ w.cell? ⟨n, 4, none⟩ = some (.int .i64 0) ∧ w.cell? ⟨n, 5, none⟩ = some (.string ⟨#[]⟩)) ∧
    w.frozen? ⟨n, 0, none⟩ = false ∧ w.frozen? ⟨n, 1, none⟩ = false ∧ w.frozen? ⟨n, 2, none⟩ = false ∧ w.frozen? ⟨n, 3, none⟩ = false ∧ w.frozen? ⟨n, 4, none⟩ = false ∧ w.frozen? ⟨n, 5, none⟩ = false :=
  ⟨h.1.cells, h.2.1 _ rfl 0, h.2.1 _ rfl 1, h.2.1 _ rfl 2, h.2.1 _ rfl 3, h.2.1 _ rfl 4, h.2.1 _ rfl 5⟩

theorem Cells.setK {w : World} {b o : Nat} {vs : List Value} (h : Cells w b o vs) {k : Nat} (hk : k < vs.length) (u : Value) : Cells (w.setCell ⟨b, o + k, none⟩ u) b o (vs.set k u) := fun j v hv => by
  by_cases e : k = j
  · subst e
    rw [List.getElem?_set_self hk] at hv
    cases hv
    exact cset_eq _ _ _ _ (h k vs[k] (List.getElem?_eq_getElem hk))
  · rw [List.getElem?_set_ne e] at hv
    exact (cset_ne _ _ _ _ _ (by omega)).trans (h j v hv)

theorem setRec_below {B x : Nat} {a w : World} (h : Below B a w) (hx : B ≤ x) (v0 v1 v2 v3 v4 v5 : Value) : Below B a ((((((w.setCell ⟨x, 0, none⟩ v0).setCell ⟨x, 1, none⟩ v1).setCell ⟨x, 2, none⟩ v2).setCell ⟨x, 3, none⟩ v3).setCell ⟨x, 4, none⟩ v4).setCell ⟨x, 5, none⟩ v5) :=
  (((((h.setCell hx _).setCell hx _).setCell hx _).setCell hx _).setCell hx _).setCell hx _

end Go.Proofs.YthmpmagajbmpaaaGreatDoor

/- Contracts of AppendRecord of both packages. Conditions: the tables are as their texts lay them; lengths. -/
namespace Go.Proofs.YthmpmagajbmpaaaGreatDoor
open Go.ChangeShapes Go.WideShapes Go.ChangeAt Go.RowKit Go.Deep Go.Joins
set_option linter.unusedVariables false
set_option linter.unusedSimpArgs false

/-- the key of a record's object -/
def manK (n : Int) : ByteArray := ⟨#[109, 97, 110, 47]⟩ ++ sixT n.toNat

theorem manK_size (n : Int) : (manK n).size = 10 := by
  unfold manK
  rw [ByteArray.size_append, sixT_size]
  rfl

theorem manK_good (n : Int) : KeyP (manK n) := by
  refine ⟨by rw [manK_size]; omega, by rw [manK_size]; omega, fun k h => ?_⟩
  have hm : (manK n)[k] ∈ (manK n).data.toList := by
    have : (manK n)[k] = (manK n).data[k] := rfl
    rw [this]
    exact Array.getElem_mem_toList _
  have hd : (manK n).data.toList = [109, 97, 110, 47] ++ (sixT n.toNat).data.toList := by simp [manK, ByteArray.data_append]
  rw [hd] at hm
  rcases List.mem_append.1 hm with hm | hm
  · simp at hm
    rcases hm with h | h | h | h <;> rw [h] <;> decide
  · exact sixT_digR hm

/-- what AppendRecord answers -/
def AppR (xs : List GObj) (next seq : Int) (r : GRec) (L : List GObj) (nx code : Int) : Prop :=
  (¬ (StoreP xs next ∧ RecP r) ∧ L = [] ∧ nx = 0 ∧ code = 1) ∨ (StoreP xs next ∧ RecP r ∧ inB seq 1 999999 = false ∧ L = [] ∧ nx = 0 ∧ code = 4) ∨ (StoreP xs next ∧ RecP r ∧ inB seq 1 999999 = true ∧ AbsC xs next (manK seq) (recT r) L nx code)

theorem recKey_any (n : Int) (h : 1 ≤ n ∧ n ≤ 999999) (w : World) (ht : Pow w) : Calls Tryz.prog 52 #[.int .i64 n] w fun e w' => e = .returned (.string (manK n)) ∧ Below w.heap.size w w' := by
  obtain ⟨m, rfl⟩ := Int.eq_ofNat_of_zero_le (show 0 ≤ n by omega)
  have hm : m ≤ 999999 := by omega
  have hc := keyedText_any m hm
  have HC := Lib.hid hc; clear hc
  have Ht := Lib.hid ht; clear ht
  have E := Lib.hid (show manK (m : Int) = ⟨#[109, 97, 110, 47]⟩ ++ sixT m from by simp [manK])
  have s6 := sixT_size m
  generalize sixT m = K at *
  go_enter Tryz.func52, Tryz.ntmps52
  go_wp2_with fail
  refine (HC.out w Ht.out).mono ?_
  rintro e w1 ⟨rfl, hb1⟩
  go_wp2
  go_ret
  exact ⟨by rw [E.out]; rfl, hb1⟩

theorem l06Key_any (n : Int) (h : 1 ≤ n ∧ n ≤ 999999) (w : World) : Calls Tryz.prog 85 #[.int .i64 n] w fun e w' => e = .returned (.string (manK n)) ∧ Below w.heap.size w w' := by
  obtain ⟨m, rfl⟩ := Int.eq_ofNat_of_zero_le (show 0 ≤ n by omega)
  have hm : m ≤ 999999 := by omega
  have HC := Lib.hid (wide_any m hm)
  have E := Lib.hid (show manK (m : Int) = ⟨#[109, 97, 110, 47]⟩ ++ sixT m from by simp [manK])
  have s6 := sixT_size m
  generalize sixT m = K at *
  go_enter Tryz.func85, Tryz.ntmps85
  go_wp2_with fail
  refine (HC.out w).mono ?_
  rintro e w1 ⟨rfl, hb1⟩
  go_wp2
  go_ret
  exact ⟨by rw [E.out]; rfl, hb1⟩

/-- a block holds two cells and no more -/
def NoMoreA (w : World) (x : Nat) : Prop := ∀ i, 2 ≤ i → w.cell? ⟨x, i, none⟩ = none

theorem NoMoreA.new (w : World) (u v : Value) (t : TypeId) : NoMoreA (w.alloc (.cells #[u, v] t)) w.heap.size := fun i hi => by
  rw [World.cell?_alloc_new]
  have : ¬ i < 2 := by omega
  simp [this]

theorem NoMoreA.below {w w' : World} {x B : Nat} (h : NoMoreA w x) (hb : Below B w w') (hB : x < B) : NoMoreA w' x := fun i hi => (hb.cell (p := ⟨x, i, none⟩) hB).trans (h i hi)

theorem fin_objsA {wN : World} {x : Nat} {A : Option Addr} {L : List GObj} (hs : ObjsAt wN wN.heap.size A L) (hn : NoMoreA wN x) (v0 v1 : Value) :
    ObjsAt ((wN.setCell ⟨x, 0, none⟩ v0).setCell ⟨x, 1, none⟩ v1) ((wN.setCell ⟨x, 0, none⟩ v0).setCell ⟨x, 1, none⟩ v1).heap.size A L := by
  rw [size_setCell, size_setCell]
  by_cases hL : L = []
  · subst hL; exact Sl.nil
  · have hf : ∀ b, blk A = some b → b ≠ x := fun b e hb => by
      obtain ⟨b', off, rfl, _, hc⟩ := hs hL
      simp [blk] at e
      subst e hb
      have h0 : 0 < L.length := List.length_pos_iff.2 hL
      have h1 := hc 0 h0 2 (.string L[0].data) rfl
      rw [hn _ (by omega)] at h1
      cases h1
    exact (Sl.far hs (p := ⟨x, 0, none⟩) hf _).far (p := ⟨x, 1, none⟩) hf _

theorem farA {w : World} {n b i : Nat} {u : Value} (v0 v1 : Value) (h : b ≠ n) (hc : w.cell? ⟨b, i, none⟩ = some u) : ((w.setCell ⟨n, 0, none⟩ v0).setCell ⟨n, 1, none⟩ v1).cell? ⟨b, i, none⟩ = some u := by
  rw [World.cell?_setCell_other _ _ _ _ (fun e => h (by injection e with e1; exact e1.symm)), World.cell?_setCell_other _ _ _ _ (fun e => h (by injection e with e1; exact e1.symm))]
  exact hc

set_option maxRecDepth 100000 in
set_option maxHeartbeats 4000000 in
theorem l06Append_any (b off c : Nat) (next : Int) (xs : List GObj) (seq : Int) (r : GRec) (B : Nat) (w : World) (h : ObjsAt w B (some ⟨b, off, none⟩) xs) (hB : B ≤ w.heap.size) (hS : StoreP xs next) (hc : xs.length ≤ c) (hseq : 1 ≤ seq ∧ seq ≤ 999999) (hf : r.fit) (hk : r.key.size ≤ 1048576) :
    Calls Tryz.prog 57 #[.agg #[.slice (some ⟨b, off, none⟩) xs.length c, .int .i64 next], .int .i64 seq, .agg #[.int .i64 r.kind, .int .i64 r.tok, .int .i64 r.tier, .int .i64 r.beg, .int .i64 r.fin, .string r.key]] w (StS (AbsC xs next (manK seq) (recT r)) w) := by
  have hn := fit_nums5 ⟨hf.1, hf.2.1, hf.2.2.1, hf.2.2.2.1, hf.2.2.2.2.1⟩
  have hkey := fun W => l06Key_any seq hseq W
  have htxt := fun W => l06Text_any r hn hk W
  have hsz : (recT r).size ≤ maxLen := by
    have := nums5_size hn
    unfold recT maxLen
    rw [ByteArray.size_append, ByteArray.size_append]
    have e : spB.size = 1 := rfl
    omega
  have hkz : (manK seq).size ≤ maxLen := by rw [manK_size]; decide
  have habs := fun (W : World) (hO : ObjsAt W B (some ⟨b, off, none⟩) xs) (hBW : B ≤ W.heap.size) => specAbsent_any b off c next xs (manK seq) (recT r) B W hO hBW hS hc hkz hsz
  generalize manK seq = MK at *
  generalize recT r = RT at *
  have HK := Lib.hid hkey; have HT := Lib.hid htxt; have HA := Lib.hid habs; have H := Lib.hid h
  clear hkey htxt habs h hS hn hf hsz hkz
  go_enter Tryz.func57, Tryz.ntmps57
  go_wp2_with fail
  obtain ⟨W, hW⟩ : ∃ W, W = ((w.alloc (.cells #[.slice (some ⟨b, off, none⟩) xs.length c, .int .i64 next] 51)).alloc (.cells #[.int .i64 r.kind, .int .i64 r.tok, .int .i64 r.tier, .int .i64 r.beg, .int .i64 r.fin, .string r.key] 38)).alloc (.cells #[.slice none 0 0, .int .i64 0] 51) := ⟨_, rfl⟩
  have t0 : Two W w.heap.size (.slice (some ⟨b, off, none⟩) xs.length c) (.int .i64 next) := by rw [hW]; exact ((Two.new w _ _ _).alloc (by simp) _).alloc (by simp; omega) _
  have r0 : RecAt W (w.heap.size + 1) r := by
    rw [hW]
    have := (RecAt.new (w.alloc (.cells #[.slice (some ⟨b, off, none⟩) xs.length c, .int .i64 next] 51)) r 38).below (bal (Below.refl _ _) (.cells #[.slice none 0 0, .int .i64 0] 51)) (by simp)
    simpa using this
  have z0 : Two W (w.heap.size + 2) (.slice none 0 0) (.int .i64 0) ∧ NoMoreA W (w.heap.size + 2) ∧ ∀ i, W.frozen? ⟨w.heap.size + 2, i, none⟩ = false := by
    rw [hW]
    have e : ((w.alloc (.cells #[.slice (some ⟨b, off, none⟩) xs.length c, .int .i64 next] 51)).alloc (.cells #[.int .i64 r.kind, .int .i64 r.tok, .int .i64 r.tier, .int .i64 r.beg, .int .i64 r.fin, .string r.key] 38)).heap.size = w.heap.size + 2 := by simp
    have h1 := Two.new ((w.alloc (.cells #[.slice (some ⟨b, off, none⟩) xs.length c, .int .i64 next] 51)).alloc (.cells #[.int .i64 r.kind, .int .i64 r.tok, .int .i64 r.tier, .int .i64 r.beg, .int .i64 r.fin, .string r.key] 38)) (.slice none 0 0) (.int .i64 0) 51
    have h2 := NoMoreA.new ((w.alloc (.cells #[.slice (some ⟨b, off, none⟩) xs.length c, .int .i64 next] 51)).alloc (.cells #[.int .i64 r.kind, .int .i64 r.tok, .int .i64 r.tier, .int .i64 r.beg, .int .i64 r.fin, .string r.key] 38)) (.slice none 0 0) (.int .i64 0) 51
    have h3 := fun i => free_alloc ((w.alloc (.cells #[.slice (some ⟨b, off, none⟩) xs.length c, .int .i64 next] 51)).alloc (.cells #[.int .i64 r.kind, .int .i64 r.tok, .int .i64 r.tier, .int .i64 r.beg, .int .i64 r.fin, .string r.key] 38)) #[.slice none 0 0, .int .i64 0] 51 0 _ rfl i
    rw [e] at h1 h2 h3
    exact ⟨h1, h2, h3⟩
  have b0 : Below w.heap.size w W := by rw [hW]; exact bal (bal (bal (Below.refl _ _) _) _) _
  have sR : w.heap.size + 2 < W.heap.size := by rw [hW]; simp
  rw [← hW]
  clear hW
  generalize hx0 : w.heap.size = x at *
  have Hx0 := Lib.hid hx0; clear hx0
  have ZT := Lib.hid z0.1; have ZN := Lib.hid z0.2.1; have ZF := Lib.hid z0.2.2
  have KC := Lib.hid (show ∀ w', Below W.heap.size W w' → w'.cell? ⟨x, 0, none⟩ = some (.slice (some ⟨b, off, none⟩) xs.length c) ∧ w'.cell? ⟨x, 1, none⟩ = some (.int .i64 next) ∧ w'.cell? ⟨x + 1, 0, none⟩ = some (.int .i64 r.kind) ∧ w'.cell? ⟨x + 1, 1, none⟩ = some (.int .i64 r.tok) ∧ w'.cell? ⟨x + 1, 2, none⟩ = some (.int .i64 r.tier) ∧ w'.cell? ⟨x + 1, 3, none⟩ = some (.int .i64 r.beg) ∧ w'.cell? ⟨x + 1, 4, none⟩ = some (.int .i64 r.fin) ∧ w'.cell? ⟨x + 1, 5, none⟩ = some (.string r.key) from fun w' hb => ⟨(t0.below hb (by omega)).1, (t0.below hb (by omega)).2, (r0.below hb (by omega)).cells⟩)
  have KD := Lib.hid (show ∀ w' u v, Below W.heap.size W w' → ((w'.setCell ⟨x + 2, 0, none⟩ u).setCell ⟨x + 2, 1, none⟩ v).cell? ⟨x, 0, none⟩ = some (.slice (some ⟨b, off, none⟩) xs.length c) ∧ ((w'.setCell ⟨x + 2, 0, none⟩ u).setCell ⟨x + 2, 1, none⟩ v).cell? ⟨x, 1, none⟩ = some (.int .i64 next) ∧ ((w'.setCell ⟨x + 2, 0, none⟩ u).setCell ⟨x + 2, 1, none⟩ v).cell? ⟨x + 1, 0, none⟩ = some (.int .i64 r.kind) ∧ ((w'.setCell ⟨x + 2, 0, none⟩ u).setCell ⟨x + 2, 1, none⟩ v).cell? ⟨x + 1, 1, none⟩ = some (.int .i64 r.tok) ∧ ((w'.setCell ⟨x + 2, 0, none⟩ u).setCell ⟨x + 2, 1, none⟩ v).cell? ⟨x + 1, 2, none⟩ = some (.int .i64 r.tier) ∧ ((w'.setCell ⟨x + 2, 0, none⟩ u).setCell ⟨x + 2, 1, none⟩ v).cell? ⟨x + 1, 3, none⟩ = some (.int .i64 r.beg) ∧ ((w'.setCell ⟨x + 2, 0, none⟩ u).setCell ⟨x + 2, 1, none⟩ v).cell? ⟨x + 1, 4, none⟩ = some (.int .i64 r.fin) ∧ ((w'.setCell ⟨x + 2, 0, none⟩ u).setCell ⟨x + 2, 1, none⟩ v).cell? ⟨x + 1, 5, none⟩ = some (.string r.key) from fun w' u v hb => by
    have k := KC.out w' hb
    refine ⟨farA _ _ (by omega) k.1, farA _ _ (by omega) k.2.1, farA _ _ (by omega) k.2.2.1, farA _ _ (by omega) k.2.2.2.1, farA _ _ (by omega) k.2.2.2.2.1, farA _ _ (by omega) k.2.2.2.2.2.1, farA _ _ (by omega) k.2.2.2.2.2.2.1, farA _ _ (by omega) k.2.2.2.2.2.2.2⟩)
  clear z0 t0 r0
  refine wp_region_noPanic ?_
  refine wp_region_held_drew (S := (fun w' => w'.cell? ⟨x, 0, none⟩ = some (.slice (some ⟨b, off, none⟩) xs.length c) ∧ w'.cell? ⟨x, 1, none⟩ = some (.int .i64 next) ∧ w'.cell? ⟨x + 1, 0, none⟩ = some (.int .i64 r.kind) ∧ w'.cell? ⟨x + 1, 1, none⟩ = some (.int .i64 r.tok) ∧ w'.cell? ⟨x + 1, 2, none⟩ = some (.int .i64 r.tier) ∧ w'.cell? ⟨x + 1, 3, none⟩ = some (.int .i64 r.beg) ∧ w'.cell? ⟨x + 1, 4, none⟩ = some (.int .i64 r.fin) ∧ w'.cell? ⟨x + 1, 5, none⟩ = some (.string r.key))) (by kernel_rfl) (KC.out _ (Below.refl _ _).drew) (fun hHeld => ?_)
  refine wpAnyH_take (i := 0) (oi := { dst := some 8, op := Op.load 51 (Operand.tmp 3), type := 51, pos := "l06_manifest.go:232", after := #[], guard := none }) (v := ?vb0) rfl (by kernel_rfl) (by kernel_rfl) (by kernel_rfl) (fun _ _ _ h => h) (Or.inl ⟨by rfl, ?hyb0⟩) (by assumption) ?restb0
  case hyb0 => intro w hSw; (try dsimp only at hSw); (obtain ⟨q0, q1, q2, q3, q4, q5, q6, q7⟩ := hSw); (first | (go_simp; done) | (go_simp; with_reducible rfl) | (with_reducible rfl))
  try simp only [Act.put, List.setIfInBounds_toArray, List.set_cons_zero, List.set_cons_succ]
  refine wpAnyH_take (i := 1) (oi := { dst := some 9, op := Op.move (Operand.tmp 1), type := 3, pos := "l06_manifest.go:232", after := #[], guard := none }) (v := ?vb1) rfl (by kernel_rfl) (by kernel_rfl) (by kernel_rfl) (fun _ _ _ h => h) (Or.inl ⟨by rfl, ?hyb1⟩) (by assumption) ?restb1
  case hyb1 => intro w hSw; (try dsimp only at hSw); (obtain ⟨q0, q1, q2, q3, q4, q5, q6, q7⟩ := hSw); (first | (go_simp; done) | (go_simp; with_reducible rfl) | (with_reducible rfl))
  try simp only [Act.put, List.setIfInBounds_toArray, List.set_cons_zero, List.set_cons_succ]
  refine wpAnyH_take (i := 3) (oi := { dst := some 11, op := Op.load 38 (Operand.tmp 5), type := 38, pos := "l06_manifest.go:232", after := #[], guard := none }) (v := ?vb3) rfl (by kernel_rfl) (by kernel_rfl) (by kernel_rfl) (fun _ _ _ h => h) (Or.inl ⟨by rfl, ?hyb3⟩) (by assumption) ?restb3
  case hyb3 => intro w hSw; (try dsimp only at hSw); (obtain ⟨q0, q1, q2, q3, q4, q5, q6, q7⟩ := hSw); (first | (go_simp; done) | (go_simp; with_reducible rfl) | (with_reducible rfl))
  try simp only [Act.put, List.setIfInBounds_toArray, List.set_cons_zero, List.set_cons_succ]
  refine wpAnyH_ready (rs := [2]) (by kernel_rfl) (by simp) ?_
  refine AllReadyH.cons (o := { dst := some 10, op := Op.call { callee := Callee.value (Operand.func 85), args := #[Operand.tmp 9], argTypes := #[3] }, type := 9, pos := "l06_manifest.go:232", after := #[{ on := 1, ground := Ground.data }], guard := none }) rfl (fun K hK => ?_) AllReadyH.nil
  go_simp
  refine (HK.out W.drew).mono ?_
  rintro e1 w1 ⟨rfl, hb1⟩
  have b1 : Below W.heap.size W w1 := (Below.refl _ _).drew.trans hb1
  go_wp2_with fail
  refine hK.out _ _ (KC.out _ b1) (fun hHeld => ?_)
  clear hK K
  try simp only [Act.put, List.setIfInBounds_toArray, List.set_cons_zero, List.set_cons_succ]
  refine wpAnyH_ready (rs := [4]) (by kernel_rfl) (by simp) ?_
  refine AllReadyH.cons (o := { dst := some 12, op := Op.call { callee := Callee.value (Operand.func 93), args := #[Operand.tmp 11], argTypes := #[38] }, type := 9, pos := "l06_manifest.go:232", after := #[{ on := 3, ground := Ground.data }, { on := 2, ground := Ground.chain }], guard := none }) rfl (fun K hK => ?_) AllReadyH.nil
  go_simp
  refine (HT.out w1).mono ?_
  rintro e2 w2 ⟨rfl, hb2⟩
  have b2 : Below W.heap.size W w2 := b1.trans (hb2.mono b1.size)
  go_wp2_with fail
  refine hK.out _ _ (KC.out _ b2) (fun hHeld => ?_)
  clear hK K
  try simp only [Act.put, List.setIfInBounds_toArray, List.set_cons_zero, List.set_cons_succ]
  refine wpAnyH_ready (rs := [5]) (by kernel_rfl) (by simp) ?_
  refine AllReadyH.cons (o := { dst := some 13, op := Op.call { callee := Callee.value (Operand.func 92), args := #[Operand.tmp 8, Operand.tmp 10, Operand.tmp 12], argTypes := #[51, 9, 9] }, type := 56, pos := "l06_manifest.go:232", after := #[{ on := 0, ground := Ground.data }, { on := 2, ground := Ground.data }, { on := 4, ground := Ground.data }, { on := 4, ground := Ground.chain }], guard := none }) rfl (fun K hK => ?_) AllReadyH.nil
  go_simp
  refine (HA.out w2 (Sl.below H.out (b0.trans (b2.mono (by omega))) hB) (by have := b2.size; omega)).mono ?_
  rintro e3 w3 ⟨L, nx, code, A3, c3, hR, rfl, hO3, hb3⟩
  have b3 : Below W.heap.size W w3 := b2.trans (hb3.mono b2.size)
  have HR := Lib.hid hR; have HO3 := Lib.hid hO3
  clear hR hO3
  have s3 : x + 2 < w3.heap.size := Nat.lt_of_lt_of_le sR b3.size
  obtain ⟨z0, z1⟩ := ZT.out.below b3 sR
  have y0 : w3.frozen? ⟨x + 2, 0, none⟩ = false := (b3.frozen (p := ⟨x + 2, 0, none⟩) sR).trans (ZF.out 0)
  have y1 : w3.frozen? ⟨x + 2, 1, none⟩ = false := (b3.frozen (p := ⟨x + 2, 1, none⟩) sR).trans (ZF.out 1)
  go_wp2_with fail
  refine hK.out _ _ (KC.out _ b3) (fun hHeld => ?_)
  clear hK K
  try simp only [Act.put, List.setIfInBounds_toArray, List.set_cons_zero, List.set_cons_succ]
  refine wpAnyH_take (i := 6) (oi := { dst := some 14, op := Op.extract (Operand.tmp 13) 0, type := 51, pos := "l06_manifest.go:232", after := #[{ on := 5, ground := Ground.data }], guard := none }) (v := ?vb6) rfl (by kernel_rfl) (by kernel_rfl) (by kernel_rfl) (fun _ _ _ h => h) (Or.inl ⟨by rfl, ?hyb6⟩) (by assumption) ?restb6
  case hyb6 => intro w hSw; (try dsimp only at hSw); (obtain ⟨q0, q1, q2, q3, q4, q5, q6, q7⟩ := hSw); (first | (go_simp; done) | (go_simp; with_reducible rfl) | (with_reducible rfl))
  try simp only [Act.put, List.setIfInBounds_toArray, List.set_cons_zero, List.set_cons_succ]
  refine wpAnyH_take (i := 7) (oi := { dst := some 15, op := Op.extract (Operand.tmp 13) 1, type := 3, pos := "l06_manifest.go:232", after := #[{ on := 5, ground := Ground.data }], guard := none }) (v := ?vb7) rfl (by kernel_rfl) (by kernel_rfl) (by kernel_rfl) (fun _ _ _ h => h) (Or.inl ⟨by rfl, ?hyb7⟩) (by assumption) ?restb7
  case hyb7 => intro w hSw; (try dsimp only at hSw); (obtain ⟨q0, q1, q2, q3, q4, q5, q6, q7⟩ := hSw); (first | (go_simp; done) | (go_simp; with_reducible rfl) | (with_reducible rfl))
  try simp only [Act.put, List.setIfInBounds_toArray, List.set_cons_zero, List.set_cons_succ]
  refine wpAnyH_ready (rs := [8]) (by kernel_rfl) (by simp) ?_
  refine AllReadyH.cons (o := { dst := none, op := Op.store 51 (Operand.tmp 6) (Operand.tmp 14), type := 0, pos := "l06_manifest.go:232", after := #[{ on := 6, ground := Ground.data }, { on := 5, ground := Ground.chain }, { on := 0, ground := Ground.phase }, { on := 1, ground := Ground.phase }, { on := 2, ground := Ground.phase }, { on := 3, ground := Ground.phase }, { on := 4, ground := Ground.phase }, { on := 5, ground := Ground.phase }, { on := 6, ground := Ground.phase }, { on := 7, ground := Ground.phase }], guard := none }) rfl (fun K hK => ?_) AllReadyH.nil
  go_simp
  refine hK.out _ _ (KD.out _ _ _ b3) (fun hHeld => ?_)
  clear hK K
  try simp only [Act.put, List.setIfInBounds_toArray, List.set_cons_zero, List.set_cons_succ]
  refine wpAnyH_take (i := 9) (oi := { dst := some 7, op := Op.assign (Operand.tmp 15), type := 3, pos := "l06_manifest.go:232", after := #[{ on := 7, ground := Ground.data }, { on := 8, ground := Ground.chain }, { on := 0, ground := Ground.phase }, { on := 1, ground := Ground.phase }, { on := 2, ground := Ground.phase }, { on := 3, ground := Ground.phase }, { on := 4, ground := Ground.phase }, { on := 5, ground := Ground.phase }, { on := 6, ground := Ground.phase }, { on := 7, ground := Ground.phase }, { on := 8, ground := Ground.phase }], guard := none }) (v := ?vb9) rfl (by kernel_rfl) (by kernel_rfl) (by kernel_rfl) (fun _ _ _ h => h) (Or.inl ⟨by rfl, ?hyb9⟩) (by assumption) ?restb9
  case hyb9 => intro w hSw; (try dsimp only at hSw); (obtain ⟨q0, q1, q2, q3, q4, q5, q6, q7⟩ := hSw); (first | (go_simp; done) | (go_simp; with_reducible rfl) | (with_reducible rfl))
  try simp only [Act.put, List.setIfInBounds_toArray, List.set_cons_zero, List.set_cons_succ]
  refine wpAnyH_done (by kernel_rfl) ?_ _
  refine NoPanic.normal ?_
  have HO4 := fin_objsA HO3.out (ZN.out.below b3 sR) (.slice A3 L.length c3) (.int .i64 nx)
  have T4 : Two ((w3.setCell ⟨x + 2, 0, none⟩ (.slice A3 L.length c3)).setCell ⟨x + 2, 1, none⟩ (.int .i64 nx)) (x + 2) (.slice A3 L.length c3) (.int .i64 nx) := (Two.set0 ⟨z0, z1⟩ _).set1 _
  have b4 : Below x w ((w3.setCell ⟨x + 2, 0, none⟩ (.slice A3 L.length c3)).setCell ⟨x + 2, 1, none⟩ (.int .i64 nx)) := ((b0.trans (b3.mono (by omega))).setCell (by show x ≤ x + 2; omega) _).setCell (by show x ≤ x + 2; omega) _
  clear hHeld z0 z1 y0 y1
  obtain ⟨z0, z1⟩ := T4
  generalize (w3.setCell ⟨x + 2, 0, none⟩ (.slice A3 L.length c3)).setCell ⟨x + 2, 1, none⟩ (.int .i64 nx) = wF at *
  go_wp2
  refine bodyPost_ret (v := .tuple #[.agg #[.slice A3 L.length c3, .int .i64 nx], .int .i64 code]) (by simp [results, Tryz.results57, go_sem, z0, z1]) rfl ⟨L, nx, code, A3, c3, HR.out, rfl, HO4, by rw [Hx0.out]; exact b4⟩

end Go.Proofs.YthmpmagajbmpaaaGreatDoor

/- Contract of the program's AppendRecord. Conditions: the tables are as their texts lay them; lengths. -/
namespace Go.Proofs.YthmpmagajbmpaaaGreatDoor
open Go.ChangeShapes Go.WideShapes Go.ChangeAt Go.RowKit Go.Deep Go.Joins
set_option linter.unusedVariables false
set_option linter.unusedSimpArgs false

theorem AbsR.absC {xs : List GObj} {next : Int} {key data : ByteArray} {L : List GObj} {nx ver code : Int} (hS : StoreP xs next) (hK : KeyP key) (hk : key.size ≤ 65536) (hd : data.size ≤ 65536) (h : AbsR xs next key data L nx ver code) : AbsC xs next key data L nx code := by
  have hF : FaultP xs next key [data] 0 := .inr (.inr (.inr ⟨fun h => (by
      rcases h with h | ⟨t, ht, h⟩
      · omega
      · simp at ht; subst ht; omega), hS, hK, rfl⟩))
  rcases h with ⟨h1, h2, _⟩ | ⟨_, h1, rfl, rfl, _, rfl⟩ | ⟨_, h1, h2⟩
  · exact absurd (FaultP.one hF h1) h2
  · exact .inl ⟨h1, rfl, rfl, rfl⟩
  · refine .inr ⟨h1, ver, h2, fun h => ?_, fun h => ?_⟩
    · subst h
      rcases h2 with ⟨_, e, _⟩ | ⟨_, _, e, _⟩ | ⟨_, _, e, _⟩
      · first | (cases e; done) | omega | simp_all
      · first | (cases e; done) | omega | simp_all
      · first | exact e | omega | simp_all
    · rcases h2 with ⟨_, e, e2, _⟩ | ⟨_, _, e, e2, _⟩ | ⟨_, _, e, e2, _⟩
      · first | exact e | omega | simp_all
      · first | exact e | omega | simp_all
      · first | exact absurd e2 h | omega | simp_all

/-- the store's box, kept -/
def KeptA (V : World) (x : Nat) (u v : Value) (w : World) : Prop := Below V.heap.size V w ∧ Two w x u v

theorem KeptA.step {V w w7 : World} {x : Nat} {u v : Value} (K : KeptA V x u v w) (sx : x < V.heap.size) (hb : Below w.heap.size w w7) : KeptA V x u v w7 :=
  ⟨K.1.trans (hb.mono K.1.size), K.2.below hb (by have := K.1.size; omega)⟩

theorem KeptA.size {V w : World} {x : Nat} {u v : Value} (K : KeptA V x u v w) : V.heap.size ≤ w.heap.size := K.1.size

theorem KeptA.low {V w : World} {x : Nat} {u v : Value} (K : KeptA V x u v w) : Below V.heap.size V w := K.1

theorem KeptA.alloc {V w : World} {x : Nat} {u v : Value} (K : KeptA V x u v w) (sx : x < V.heap.size) (o : Obj) : KeptA V x u v (w.alloc o) := K.step sx (bal (Below.refl _ _) o)

theorem keptA_first {V : World} {x : Nat} {u v : Value} (K : KeptA V x u v V) (sx : x < V.heap.size) (o : Obj) : KeptA V x u v (V.alloc o).drew := by
  have := K.alloc sx o
  exact ⟨this.1.drew, this.2⟩

theorem KeptA.objs {V w a : World} {x B X : Nat} {u v : Value} {A : Option Addr} {xs : List GObj} (K : KeptA V x u v w) (H : ObjsAt a B A xs) (hV : Below X a V) (hX : X ≤ V.heap.size) (hB : B ≤ X) : ObjsAt w B A xs ∧ B ≤ w.heap.size :=
  ⟨Sl.below H (hV.trans (K.1.mono hX)) hB, Nat.le_trans hB (Nat.le_trans hX K.1.size)⟩

/-- a new store's block, of zeros, from block B on -/
def ZedA (B : Nat) (w : World) (n : Nat) : Prop := Two w n (.slice none 0 0) (.int .i64 0) ∧ (∀ i, w.frozen? ⟨n, i, none⟩ = false) ∧ NoMoreA w n ∧ n < w.heap.size ∧ B ≤ n

theorem zedA_new {B : Nat} {x : World} (h : B ≤ x.heap.size) (t : TypeId) : ZedA B (x.alloc (.cells #[.slice none 0 0, .int .i64 0] t)) x.heap.size :=
  ⟨Two.new x _ _ t, fun i => free_alloc x #[.slice none 0 0, .int .i64 0] t 0 x.heap.size rfl i, NoMoreA.new x _ _ t, by simp, h⟩

theorem zedA_first (x : World) (t : TypeId) : ZedA x.heap.size (x.alloc (.cells #[.slice none 0 0, .int .i64 0] t)).drew x.heap.size := zedA_new (Nat.le_refl _) t

theorem ZedA.step {B : Nat} {w w' : World} {n : Nat} (h : ZedA B w n) (hb : Below w.heap.size w w') : ZedA B w' n :=
  ⟨h.1.below hb h.2.2.2.1, fun i => (hb.frozen (p := ⟨n, i, none⟩) h.2.2.2.1).trans (h.2.1 i), h.2.2.1.below hb h.2.2.2.1, Nat.lt_of_lt_of_le h.2.2.2.1 hb.size, h.2.2.2.2⟩

theorem ZedA.base {B : Nat} {w : World} {n : Nat} (h : ZedA B w n) : B ≤ n := h.2.2.2.2

theorem ZedA.cells {B : Nat} {w : World} {n : Nat} (h : ZedA B w n) : (w.cell? ⟨n, 0, none⟩ = some (.slice none 0 0) ∧ w.cell? ⟨n, 1, none⟩ = some (.int .i64 0)) ∧ w.frozen? ⟨n, 0, none⟩ = false ∧ w.frozen? ⟨n, 1, none⟩ = false := ⟨h.1, h.2.1 0, h.2.1 1⟩

theorem keptA_cells {V w : World} {x n : Nat} {u v : Value} (K : KeptA V x u v w) (hn : V.heap.size ≤ n) (sx : x < V.heap.size) (v0 v1 : Value) :
    ((w.setCell ⟨n, 0, none⟩ v0).setCell ⟨n, 1, none⟩ v1).cell? ⟨x, 0, none⟩ = some u ∧ ((w.setCell ⟨n, 0, none⟩ v0).setCell ⟨n, 1, none⟩ v1).cell? ⟨x, 1, none⟩ = some v :=
  ⟨farA _ _ (by omega) K.2.1, farA _ _ (by omega) K.2.2⟩

/-- what the region leaves: a store of its own in a block of its own -/
def CutA (V wx : World) (nb : Nat) (A : Option Addr) (c : Nat) (L : List GObj) (nx : Int) : Prop := Two wx nb (.slice A L.length c) (.int .i64 nx) ∧ ObjsAt wx wx.heap.size A L ∧ Free wx A ∧ (∀ b, blk A = some b → V.heap.size ≤ b ∧ b < wx.heap.size) ∧ Below V.heap.size V wx ∧ V.heap.size ≤ nb ∧ nb < wx.heap.size

theorem cutA_new {V w : World} {x : Nat} {u v : Value} {A : Option Addr} {c : Nat} {L : List GObj} {nx : Int} (K : KeptA V x u v w) (hs : ObjsAt w w.heap.size A L) (hf : Free w A) (hb : ∀ b, blk A = some b → V.heap.size ≤ b ∧ b < w.heap.size) (t : TypeId) : CutA V (w.alloc (.cells #[.slice A L.length c, .int .i64 nx] t)) w.heap.size A c L nx :=
  ⟨Two.new w _ _ t, (Sl.below hs (bal (Below.refl _ _) _) (Nat.le_refl _)).more (by simp), hf.below (bal (Below.refl _ _) _) (fun b e => (hb b e).2), fun b e => ⟨(hb b e).1, by have := (hb b e).2; simp; omega⟩, bal K.1 _, K.1.size, by simp⟩

theorem cutA_set {V w : World} {x n : Nat} {u v : Value} {A : Option Addr} {c : Nat} {L : List GObj} {nx : Int} (K : KeptA V x u v w) (Z : ZedA V.heap.size w n) (hs : ObjsAt w w.heap.size A L) (hf : Free w A) (hb : ∀ b, blk A = some b → V.heap.size ≤ b ∧ b < w.heap.size) : CutA V ((w.setCell ⟨n, 0, none⟩ (.slice A L.length c)).setCell ⟨n, 1, none⟩ (.int .i64 nx)) n A c L nx :=
  ⟨(Z.1.set0 _).set1 _, fin_objsA hs Z.2.2.1 _ _, (hf.setCell _ _).setCell _ _, fun b e => by rw [size_setCell, size_setCell]; exact hb b e, (K.1.setCell (p := ⟨n, 0, none⟩) Z.2.2.2.2 _).setCell (p := ⟨n, 1, none⟩) Z.2.2.2.2 _, Z.2.2.2.2, by rw [size_setCell, size_setCell]; exact Z.2.2.2.1⟩

theorem cutA_low {V w w' : World} {A : Option Addr} (h : V.heap.size ≤ w.heap.size) (hb : ∀ b, blk A = some b → w.heap.size ≤ b ∧ b < w'.heap.size) : ∀ b, blk A = some b → V.heap.size ≤ b ∧ b < w'.heap.size := fun b e => ⟨Nat.le_trans h (hb b e).1, (hb b e).2⟩

set_option maxRecDepth 100000 in
set_option maxHeartbeats 4000000 in
theorem appendRecord_any (A : Option Addr) (c : Nat) (next : Int) (xs : List GObj) (seq : Int) (r : GRec) (B : Nat) (w : World) (h : ObjsAt w B A xs) (hB : B ≤ w.heap.size) (hf : ∀ o ∈ xs, o.fit) (hl : xs.length ≤ 1048576) (hr : r.fit) (hk : r.key.size ≤ 1048576) (hp : Paths w) (hz : 1 < w.heap.size) (ht : Pow w) :
    Calls Tryz.prog 22 #[.agg #[.slice A xs.length c, .int .i64 next], .int .i64 seq, .agg #[.int .i64 r.kind, .int .i64 r.tok, .int .i64 r.tier, .int .i64 r.beg, .int .i64 r.fin, .string r.key]] w (StAns2 (AppR xs next seq r) w) := by
  have H := Lib.hid h; have Hf := Lib.hid hf; have Hr := Lib.hid hr
  have HP : Hid (∀ w', Below w.heap.size w w' → Paths w' ∧ 1 < w'.heap.size ∧ Pow w') := Lib.hid (fun w' h => ⟨hp.below h hz, Nat.lt_of_lt_of_le hz h.size, ht.below h (Nat.le_refl _)⟩)
  clear h hf hr hp ht
  go_enter Tryz.func22, Tryz.ntmps22
  go_wp2_with fail
  obtain ⟨W, hW⟩ : ∃ W, W = ((w.alloc (.cells #[.slice A xs.length c, .int .i64 next] 51)).alloc (.cells #[.int .i64 r.kind, .int .i64 r.tok, .int .i64 r.tier, .int .i64 r.beg, .int .i64 r.fin, .string r.key] 38)).alloc (.cells #[.slice none 0 0, .int .i64 0] 51) := ⟨_, rfl⟩
  have t0 : Two W w.heap.size (.slice A xs.length c) (.int .i64 next) := by rw [hW]; exact ((Two.new w _ _ _).alloc (by simp) _).alloc (by simp; omega) _
  have z0 : Two W (w.heap.size + 2) (.slice none 0 0) (.int .i64 0) ∧ ∀ i, W.frozen? ⟨w.heap.size + 2, i, none⟩ = false := by
    rw [hW]
    have e : ((w.alloc (.cells #[.slice A xs.length c, .int .i64 next] 51)).alloc (.cells #[.int .i64 r.kind, .int .i64 r.tok, .int .i64 r.tier, .int .i64 r.beg, .int .i64 r.fin, .string r.key] 38)).heap.size = w.heap.size + 2 := by simp
    have h1 := Two.new ((w.alloc (.cells #[.slice A xs.length c, .int .i64 next] 51)).alloc (.cells #[.int .i64 r.kind, .int .i64 r.tok, .int .i64 r.tier, .int .i64 r.beg, .int .i64 r.fin, .string r.key] 38)) (.slice none 0 0) (.int .i64 0) 51
    have h3 := fun i => free_alloc ((w.alloc (.cells #[.slice A xs.length c, .int .i64 next] 51)).alloc (.cells #[.int .i64 r.kind, .int .i64 r.tok, .int .i64 r.tier, .int .i64 r.beg, .int .i64 r.fin, .string r.key] 38)) #[.slice none 0 0, .int .i64 0] 51 0 _ rfl i
    rw [e] at h1 h3
    exact ⟨h1, h3⟩
  have b0 : Below w.heap.size w W := by rw [hW]; exact bal (bal (bal (Below.refl _ _) _) _) _
  have sR : w.heap.size + 2 < W.heap.size := by rw [hW]; simp
  rw [← hW]
  clear hW
  have hpW := HP.out W b0
  generalize hx0 : w.heap.size = x at *
  have Hx0 := Lib.hid hx0; clear hx0
  have ZT := Lib.hid z0.1; have ZF := Lib.hid z0.2; have T0 := Lib.hid t0
  clear z0 t0
  refine (recordText_any r Hr.out W (by omega) hpW.1 hpW.2.1 hpW.2.2).mono ?_
  rintro e w1 ⟨s, cd, rfl, hrt, hb1⟩
  clear hpW
  rcases hrt with ⟨hrp, rfl, rfl⟩ | ⟨hrp, rfl, rfl⟩
  case inr =>
    have HR := Lib.hid (show AppR xs next seq r [] 0 1 from .inl ⟨fun h => hrp h.2, rfl, rfl, rfl⟩)
    clear hrp
    obtain ⟨v0, v1⟩ := (show Two w1 (x + 2) (.slice none 0 0) (.int .i64 0) from ZT.out.below hb1 sR)
    have hT : Two w1 (x + 2) (.slice none 0 0) (.int .i64 0) := ⟨v0, v1⟩
    have f0 : w1.frozen? ⟨x + 2, 0, none⟩ = false := (hb1.frozen (p := ⟨x + 2, 0, none⟩) sR).trans (ZF.out 0)
    have f1 : w1.frozen? ⟨x + 2, 1, none⟩ = false := (hb1.frozen (p := ⟨x + 2, 1, none⟩) sR).trans (ZF.out 1)
    have bW : Below x w w1 := b0.trans (hb1.mono (by omega))
    go_wp2_with fail
    obtain ⟨⟨z0, z1⟩, r1, r2, r3, r4⟩ := fin_store (w := w) (A := none) (L := []) hT Sl.nil Free.none_ (fun b e => by cases e) (by rw [Hx0.out]; exact bW) (by rw [Hx0.out]; omega) (.slice none 0 0) (.int .i64 0)
    clear v0 v1 f0 f1 hT
    generalize (w1.setCell ⟨x + 2, 0, none⟩ (.slice none 0 0)).setCell ⟨x + 2, 1, none⟩ (.int .i64 0) = wF at *
    exact bodyPost_ret (v := .tuple #[.agg #[.slice none 0 0, .int .i64 0], .int .i64 1]) (by simp [results, Tryz.results22, go_sem, z0, z1]) rfl ⟨[], 0, 1, none, 0, HR.out, rfl, r1, r2, r3, Nat.le_refl _, r4⟩
  have HPR := Lib.hid hrp; clear hrp
  obtain ⟨t0, t1⟩ := T0.out.below hb1 (by omega)
  go_wp2_with fail
  refine (right_any A c next xs B _ (Sl.below H.out (b0.trans (hb1.mono (by omega))) hB) (by have := hb1.size; omega) Hf.out hl).mono ?_
  rintro e w2 ⟨bs, hbs, rfl, hb2'⟩
  have hb2 : Below W.heap.size W w2 := hb1.trans (hb2'.mono hb1.size)
  clear hb1 hb2' t0 t1
  cases bs
  · have HR := Lib.hid (show AppR xs next seq r [] 0 1 from .inl ⟨fun h => (by have := hbs.2 h.1; cases this), rfl, rfl, rfl⟩)
    clear hbs
    obtain ⟨v0, v1⟩ := (show Two w2 (x + 2) (.slice none 0 0) (.int .i64 0) from ZT.out.below hb2 sR)
    have hT : Two w2 (x + 2) (.slice none 0 0) (.int .i64 0) := ⟨v0, v1⟩
    have f0 : w2.frozen? ⟨x + 2, 0, none⟩ = false := (hb2.frozen (p := ⟨x + 2, 0, none⟩) sR).trans (ZF.out 0)
    have f1 : w2.frozen? ⟨x + 2, 1, none⟩ = false := (hb2.frozen (p := ⟨x + 2, 1, none⟩) sR).trans (ZF.out 1)
    have bW : Below x w w2 := b0.trans (hb2.mono (by omega))
    go_wp2_with fail
    obtain ⟨⟨z0, z1⟩, r1, r2, r3, r4⟩ := fin_store (w := w) (A := none) (L := []) hT Sl.nil Free.none_ (fun b e => by cases e) (by rw [Hx0.out]; exact bW) (by rw [Hx0.out]; omega) (.slice none 0 0) (.int .i64 0)
    clear v0 v1 f0 f1 hT
    generalize (w2.setCell ⟨x + 2, 0, none⟩ (.slice none 0 0)).setCell ⟨x + 2, 1, none⟩ (.int .i64 0) = wF at *
    exact bodyPost_ret (v := .tuple #[.agg #[.slice none 0 0, .int .i64 0], .int .i64 1]) (by simp [results, Tryz.results22, go_sem, z0, z1]) rfl ⟨[], 0, 1, none, 0, HR.out, rfl, r1, r2, r3, Nat.le_refl _, r4⟩
  have HS := Lib.hid (hbs.1 rfl); clear hbs
  cases hq : inB seq 1 999999
  · have HR := Lib.hid (show AppR xs next seq r [] 0 4 from .inr (.inl ⟨HS.out, HPR.out, hq, rfl, rfl, rfl⟩))
    obtain ⟨v0, v1⟩ := (show Two w2 (x + 2) (.slice none 0 0) (.int .i64 0) from ZT.out.below hb2 sR)
    have hT : Two w2 (x + 2) (.slice none 0 0) (.int .i64 0) := ⟨v0, v1⟩
    have f0 : w2.frozen? ⟨x + 2, 0, none⟩ = false := (hb2.frozen (p := ⟨x + 2, 0, none⟩) sR).trans (ZF.out 0)
    have f1 : w2.frozen? ⟨x + 2, 1, none⟩ = false := (hb2.frozen (p := ⟨x + 2, 1, none⟩) sR).trans (ZF.out 1)
    have bW : Below x w w2 := b0.trans (hb2.mono (by omega))
    go_wp2_with (go_at_call 60; refine (within_any _ _ _ _).mono ?_; rintro e w' ⟨rfl, rfl⟩; rw [hq])
    obtain ⟨⟨z0, z1⟩, r1, r2, r3, r4⟩ := fin_store (w := w) (A := none) (L := []) hT Sl.nil Free.none_ (fun b e => by cases e) (by rw [Hx0.out]; exact bW) (by rw [Hx0.out]; omega) (.slice none 0 0) (.int .i64 0)
    clear v0 v1 f0 f1 hT
    generalize (w2.setCell ⟨x + 2, 0, none⟩ (.slice none 0 0)).setCell ⟨x + 2, 1, none⟩ (.int .i64 0) = wF at *
    exact bodyPost_ret (v := .tuple #[.agg #[.slice none 0 0, .int .i64 0], .int .i64 4]) (by simp [results, Tryz.results22, go_sem, z0, z1]) rfl ⟨[], 0, 4, none, 0, HR.out, rfl, r1, r2, r3, Nat.le_refl _, r4⟩
  have HQ := Lib.hid hq; clear hq
  go_upto_region 6 with (go_at_call 60; refine (within_any _ _ _ _).mono ?_; rintro e w' ⟨rfl, rfl⟩; rw [HQ.out])
  have hz := nums5_size (fit_nums5 ⟨Hr.out.1, Hr.out.2.1, Hr.out.2.2.1, Hr.out.2.2.2.1, Hr.out.2.2.2.2.1⟩)
  have h17 := HPR.out.keyLe
  have hsz : (recT r).size ≤ 65536 := by
    unfold recT
    rw [ByteArray.size_append, ByteArray.size_append]
    have e : spB.size = 1 := rfl
    omega
  have hks : (manK seq).size ≤ 65536 := by rw [manK_size]; decide
  have HPA := Lib.hid (fun (W' : World) (hO : ObjsAt W' B A xs) (hBW : B ≤ W'.heap.size) => putAbsent_any A c next xs (manK seq) (recT r) B W' hO hBW Hf.out hl (by unfold maxLen; omega) (by unfold maxLen; omega))
  have HAC := Lib.hid (fun (L : List GObj) (nx ver cd : Int) (h : AbsR xs next (manK seq) (recT r) L nx ver cd) => (show AppR xs next seq r L nx cd from .inr (.inr ⟨HS.out, HPR.out, HQ.out, AbsR.absC HS.out (manK_good seq) hks hsz h⟩)))
  have hseq := inB_iff.1 HQ.out
  have HKY := Lib.hid (fun (W' : World) (hW : Pow W') => recKey_any seq hseq W' hW)
  have HPW := Lib.hid (fun (W' : World) (h : Below w2.heap.size w2 W') => (HP.out W' ((b0.trans (hb2.mono (by omega))).trans (h.mono (by have := hb2.size; omega)))).2.2)
  clear hz h17 hsz hks hseq HP
  generalize recT r = RT at *
  generalize manK seq = MK at *
  generalize hV : w2 = V at *
  clear hV
  have bV : Below x w V := b0.trans (hb2.mono (by omega))
  have t0V : Two V x (.slice A xs.length c) (.int .i64 next) := T0.out.below hb2 (by omega)
  have ZV := Lib.hid (ZT.out.below hb2 sR)
  have FV := Lib.hid (show ∀ i, V.frozen? ⟨x + 2, i, none⟩ = false from fun i => (hb2.frozen (p := ⟨x + 2, i, none⟩) sR).trans (ZF.out i))
  have sx2 : x + 2 < V.heap.size := Nat.lt_of_lt_of_le sR hb2.size
  have sx : x < V.heap.size := by omega
  clear T0 ZT ZF hb2 b0 sR
  go_cut [10, 9] (fun p q wx => ∃ (nb : Nat) (L : List GObj) (nx ver cd : Int) (A' : Option Addr) (c' : Nat), p = .pointer (some ⟨nb, 0, none⟩) ∧ q = .int .i64 cd ∧ Hid (AbsR xs next MK RT L nx ver cd) ∧ Hid (CutA V wx nb A' c' L nx) ∧ L.length ≤ c')
  case first =>
    have K0 := Lib.hid (show KeptA V x (.slice A xs.length c) (.int .i64 next) V from ⟨Below.refl _ _, t0V⟩)
    have K := Lib.hid (show KeptA V x (.slice A xs.length c) (.int .i64 next) V.drew from ⟨(Below.refl _ _).drew, t0V⟩)
    obtain ⟨p0, p1⟩ := t0V
    go_region_held3 (fun w' => w'.cell? ⟨x, 0, none⟩ = some (.slice A xs.length c) ∧ w'.cell? ⟨x, 1, none⟩ = some (.int .i64 next))
      (first | exact ⟨p0, p1⟩ | (with_reducible exact keptA_cells K.out (ZedA.base Z.out) sx _ _) | (go_keep; done) | (simp only [*]; done))
      (first
        | (go_at_call 52; refine (HKY.out _ (by first | (with_reducible exact HPW.out _ (KeptA.low K.out)) | (with_reducible exact HPW.out _ (KeptA.low (KeptA.alloc K.out sx _))) | (with_reducible exact HPW.out _ (KeptA.low (keptA_first K0.out sx _))))).mono ?_; rintro e w7 ⟨rfl, hb7⟩; (first | (with_reducible (replace K := Lib.hid (KeptA.step K.out sx hb7)); (try (with_reducible (replace Z := Lib.hid (ZedA.step Z.out hb7))))) | (with_reducible (have Z := Lib.hid (ZedA.step (zedA_new (B := V.heap.size) (KeptA.size K.out) _) hb7)); with_reducible (replace K := Lib.hid (KeptA.step (KeptA.alloc K.out sx _) sx hb7))) | (with_reducible (have Z := Lib.hid (ZedA.step (zedA_first _ _) hb7)); with_reducible (replace K := Lib.hid (KeptA.step (keptA_first K0.out sx _) sx hb7)))); (try (obtain ⟨⟨z0, z1⟩, y0, y1⟩ := Z.out.cells; have ne1 := Nat.ne_of_lt (Nat.lt_of_lt_of_le sx (ZedA.base Z.out)))); clear hb7; obtain ⟨p0, p1⟩ := K.out.2)
        | (go_at_call 61; refine (HPA.out _ (by first | (with_reducible exact (KeptA.objs K.out H.out bV (Nat.le_of_lt sx) hB).1) | (with_reducible exact (KeptA.objs (KeptA.alloc K.out sx _) H.out bV (Nat.le_of_lt sx) hB).1) | (with_reducible exact (KeptA.objs (keptA_first K0.out sx _) H.out bV (Nat.le_of_lt sx) hB).1)) (by first | (with_reducible exact (KeptA.objs K.out H.out bV (Nat.le_of_lt sx) hB).2) | (with_reducible exact (KeptA.objs (KeptA.alloc K.out sx _) H.out bV (Nat.le_of_lt sx) hB).2) | (with_reducible exact (KeptA.objs (keptA_first K0.out sx _) H.out bV (Nat.le_of_lt sx) hB).2))).mono ?_; rintro e w7 ⟨L, nx, ver, cd, A', c', hR, rfl, hsl, hfr, hbl, hcc, hb7⟩; have HR := Lib.hid hR; have HSL := Lib.hid hsl; have HFR := Lib.hid hfr; have HBL := Lib.hid (cutA_low (V := V) (by first | (with_reducible exact KeptA.size K.out) | (with_reducible exact KeptA.size (KeptA.alloc K.out sx _)) | (with_reducible exact KeptA.size (keptA_first K0.out sx _))) hbl); have HCC := Lib.hid hcc; clear hR hsl hfr hbl hcc; (first | (with_reducible (replace K := Lib.hid (KeptA.step K.out sx hb7)); (try (with_reducible (replace Z := Lib.hid (ZedA.step Z.out hb7))))) | (with_reducible (have Z := Lib.hid (ZedA.step (zedA_new (B := V.heap.size) (KeptA.size K.out) _) hb7)); with_reducible (replace K := Lib.hid (KeptA.step (KeptA.alloc K.out sx _) sx hb7))) | (with_reducible (have Z := Lib.hid (ZedA.step (zedA_first _ _) hb7)); with_reducible (replace K := Lib.hid (KeptA.step (keptA_first K0.out sx _) sx hb7)))); (try (obtain ⟨⟨z0, z1⟩, y0, y1⟩ := Z.out.cells; have ne1 := Nat.ne_of_lt (Nat.lt_of_lt_of_le sx (ZedA.base Z.out)))); clear hb7; obtain ⟨p0, p1⟩ := K.out.2))
    all_goals (go_wp2_with fail; go_meet)
    all_goals first | (with_reducible exact ⟨_, L, nx, ver, cd, A', c', rfl, rfl, HR, Lib.hid (cutA_new K.out HSL.out HFR.out HBL.out _), HCC.out⟩) | (with_reducible exact ⟨_, L, nx, ver, cd, A', c', rfl, rfl, HR, Lib.hid (cutA_set K.out Z.out HSL.out HFR.out HBL.out), HCC.out⟩)
  case rest =>
    obtain ⟨nb, L, nx, ver, cd, A', c', rfl, rfl, HR, HCut, hcc⟩ := hcut
    have HR2 := Lib.hid (HAC.out L nx ver cd HR.out)
    obtain ⟨⟨r0, r1⟩, hO, hF, hbl, hBx, hnb, hnb2⟩ := HCut.out
    have hT : Two wc (x + 2) (.slice none 0 0) (.int .i64 0) := ZV.out.below hBx sx2
    obtain ⟨v0, v1⟩ := hT
    have hT : Two wc (x + 2) (.slice none 0 0) (.int .i64 0) := ⟨v0, v1⟩
    have f0 : wc.frozen? ⟨x + 2, 0, none⟩ = false := (hBx.frozen (p := ⟨x + 2, 0, none⟩) sx2).trans (FV.out 0)
    have f1 : wc.frozen? ⟨x + 2, 1, none⟩ = false := (hBx.frozen (p := ⟨x + 2, 1, none⟩) sx2).trans (FV.out 1)
    have bW : Below x w wc := bV.trans (hBx.mono (by omega))
    have HO := Lib.hid hO; have HF := Lib.hid hF
    have HBL := Lib.hid (show ∀ b, blk A' = some b → x + 2 < b ∧ b < wc.heap.size from fun b e => ⟨by have := (hbl b e).1; omega, (hbl b e).2⟩)
    clear hO hF hbl HCut hBx HR
    go_wp2
    obtain ⟨⟨z0, z1⟩, q1, q2, q3, q4⟩ := fin_store (w := w) hT HO.out HF.out HBL.out (by rw [Hx0.out]; exact bW) (by rw [Hx0.out]; omega) (.slice A' L.length c') (.int .i64 nx)
    clear v0 v1 f0 f1 hT r0 r1
    generalize (wc.setCell ⟨x + 2, 0, none⟩ (.slice A' L.length c')).setCell ⟨x + 2, 1, none⟩ (.int .i64 nx) = wF at *
    exact bodyPost_ret (v := .tuple #[.agg #[.slice A' L.length c', .int .i64 nx], .int .i64 cd]) (by simp [results, Tryz.results22, go_sem, z0, z1]) rfl ⟨L, nx, cd, A', c', HR2.out, rfl, q1, q2, q3, hcc, q4⟩

end Go.Proofs.YthmpmagajbmpaaaGreatDoor

/- Contract of the model's AppendRecord. Conditions: lengths. -/
namespace Go.Proofs.YthmpmagajbmpaaaGreatDoor
open Go.ChangeShapes Go.WideShapes Go.ChangeAt Go.RowKit Go.Deep Go.Joins
set_option linter.unusedVariables false
set_option linter.unusedSimpArgs false

theorem absC_len {xs : List GObj} {next nx code : Int} {key data : ByteArray} {L : List GObj} (hS : StoreP xs next) (hf : ∀ o ∈ xs, o.fit) (hk : key.size ≤ maxLen) (h : AbsC xs next key data L nx code) : L.length ≤ 301 := by
  have := hS.2.2.1
  rcases h with ⟨_, rfl, _⟩ | ⟨_, ver, hp, _⟩
  · omega
  · have := (PutP.facts hp (rise_of_store hS) (fun o ho => (hf o ho).1.1) hk).2.1; omega

set_option maxRecDepth 100000 in
set_option maxHeartbeats 4000000 in
theorem specAppendRecord_any (b off c : Nat) (next : Int) (xs : List GObj) (seq : Int) (r : GRec) (B : Nat) (w : World) (h : ObjsAt w B (some ⟨b, off, none⟩) xs) (hB : B ≤ w.heap.size) (hf : ∀ o ∈ xs, o.fit) (hl : xs.length ≤ 1048576) (hc : xs.length ≤ c) (hr : r.fit) (hk : r.key.size ≤ 1048576) :
    Calls Tryz.prog 21 #[.agg #[.slice (some ⟨b, off, none⟩) xs.length c, .int .i64 next], .int .i64 seq, .agg #[.int .i64 r.kind, .int .i64 r.tok, .int .i64 r.tier, .int .i64 r.beg, .int .i64 r.fin, .string r.key]] w (StAns2 (AppR xs next seq r) w) := by
  have H := Lib.hid h; have Hf := Lib.hid hf; have Hr := Lib.hid hr
  clear h hf hr
  go_enter Tryz.func21, Tryz.ntmps21
  go_wp2_with fail
  obtain ⟨W, hW⟩ : ∃ W, W = ((w.alloc (.cells #[.slice (some ⟨b, off, none⟩) xs.length c, .int .i64 next] 51)).alloc (.cells #[.int .i64 r.kind, .int .i64 r.tok, .int .i64 r.tier, .int .i64 r.beg, .int .i64 r.fin, .string r.key] 38)).alloc (.cells #[.slice none 0 0, .int .i64 0] 51) := ⟨_, rfl⟩
  have t0 : Two W w.heap.size (.slice (some ⟨b, off, none⟩) xs.length c) (.int .i64 next) := by rw [hW]; exact ((Two.new w _ _ _).alloc (by simp) _).alloc (by simp; omega) _
  have r0 : RecAt W (w.heap.size + 1) r := by
    rw [hW]
    have := (RecAt.new (w.alloc (.cells #[.slice (some ⟨b, off, none⟩) xs.length c, .int .i64 next] 51)) r 38).below (bal (Below.refl _ _) (.cells #[.slice none 0 0, .int .i64 0] 51)) (by simp)
    simpa using this
  have z0 : Two W (w.heap.size + 2) (.slice none 0 0) (.int .i64 0) ∧ ∀ i, W.frozen? ⟨w.heap.size + 2, i, none⟩ = false := by
    rw [hW]
    have e : ((w.alloc (.cells #[.slice (some ⟨b, off, none⟩) xs.length c, .int .i64 next] 51)).alloc (.cells #[.int .i64 r.kind, .int .i64 r.tok, .int .i64 r.tier, .int .i64 r.beg, .int .i64 r.fin, .string r.key] 38)).heap.size = w.heap.size + 2 := by simp
    have h1 := Two.new ((w.alloc (.cells #[.slice (some ⟨b, off, none⟩) xs.length c, .int .i64 next] 51)).alloc (.cells #[.int .i64 r.kind, .int .i64 r.tok, .int .i64 r.tier, .int .i64 r.beg, .int .i64 r.fin, .string r.key] 38)) (.slice none 0 0) (.int .i64 0) 51
    have h3 := fun i => free_alloc ((w.alloc (.cells #[.slice (some ⟨b, off, none⟩) xs.length c, .int .i64 next] 51)).alloc (.cells #[.int .i64 r.kind, .int .i64 r.tok, .int .i64 r.tier, .int .i64 r.beg, .int .i64 r.fin, .string r.key] 38)) #[.slice none 0 0, .int .i64 0] 51 0 _ rfl i
    rw [e] at h1 h3
    exact ⟨h1, h3⟩
  have b0 : Below w.heap.size w W := by rw [hW]; exact bal (bal (bal (Below.refl _ _) _) _) _
  have sR : w.heap.size + 2 < W.heap.size := by rw [hW]; simp
  rw [← hW]
  clear hW
  generalize hx0 : w.heap.size = x at *
  have Hx0 := Lib.hid hx0; clear hx0
  have ZT := Lib.hid z0.1; have ZF := Lib.hid z0.2; have T0 := Lib.hid t0; have R0 := Lib.hid r0
  clear z0 t0 r0
  refine (specStoreOK_any (some ⟨b, off, none⟩) c next xs B W (Sl.below H.out b0 hB) (by omega) Hf.out hl).mono ?_
  rintro e w1 ⟨bs, hbs, rfl, hb1⟩
  cases bs
  · have HR := Lib.hid (show AppR xs next seq r [] 0 1 from .inl ⟨fun h => (by have := hbs.2 h.1; cases this), rfl, rfl, rfl⟩)
    clear hbs
    obtain ⟨v0, v1⟩ := (show Two w1 (x + 2) (.slice none 0 0) (.int .i64 0) from ZT.out.below hb1 sR)
    have hT : Two w1 (x + 2) (.slice none 0 0) (.int .i64 0) := ⟨v0, v1⟩
    have f0 : w1.frozen? ⟨x + 2, 0, none⟩ = false := (hb1.frozen (p := ⟨x + 2, 0, none⟩) sR).trans (ZF.out 0)
    have f1 : w1.frozen? ⟨x + 2, 1, none⟩ = false := (hb1.frozen (p := ⟨x + 2, 1, none⟩) sR).trans (ZF.out 1)
    have bW : Below x w w1 := b0.trans (hb1.mono (by omega))
    go_wp2_with (go_at_call 56; refine (inL_any _ _ _ _).mono ?_; rintro e w' ⟨rfl, rfl⟩)
    obtain ⟨⟨z0, z1⟩, r1, r2, r3, r4⟩ := fin_store (w := w) (A := none) (L := []) hT Sl.nil Free.none_ (fun b e => by cases e) (by rw [Hx0.out]; exact bW) (by rw [Hx0.out]; omega) (.slice none 0 0) (.int .i64 0)
    clear v0 v1 f0 f1 hT
    generalize (w1.setCell ⟨x + 2, 0, none⟩ (.slice none 0 0)).setCell ⟨x + 2, 1, none⟩ (.int .i64 0) = wF at *
    exact bodyPost_ret (v := .tuple #[.agg #[.slice none 0 0, .int .i64 0], .int .i64 1]) (by simp [results, Tryz.results21, go_sem, z0, z1]) rfl ⟨[], 0, 1, none, 0, HR.out, rfl, r1, r2, r3, Nat.le_refl _, r4⟩
  have HS := Lib.hid (hbs.1 rfl); clear hbs
  obtain ⟨c0, c1, c2, c3, c4, c5⟩ := (R0.out.below hb1 (by omega)).cells
  go_wp2_with fail
  refine (specRecordOK_any r w1 hk).mono ?_
  rintro e w2 ⟨br, hbr, rfl, hb2'⟩
  have hb2 : Below W.heap.size W w2 := hb1.trans (hb2'.mono hb1.size)
  clear hb1 hb2' c0 c1 c2 c3 c4 c5
  cases br
  · have HR := Lib.hid (show AppR xs next seq r [] 0 1 from .inl ⟨fun h => (by have := hbr.2 h.2; cases this), rfl, rfl, rfl⟩)
    clear hbr
    obtain ⟨v0, v1⟩ := (show Two w2 (x + 2) (.slice none 0 0) (.int .i64 0) from ZT.out.below hb2 sR)
    have hT : Two w2 (x + 2) (.slice none 0 0) (.int .i64 0) := ⟨v0, v1⟩
    have f0 : w2.frozen? ⟨x + 2, 0, none⟩ = false := (hb2.frozen (p := ⟨x + 2, 0, none⟩) sR).trans (ZF.out 0)
    have f1 : w2.frozen? ⟨x + 2, 1, none⟩ = false := (hb2.frozen (p := ⟨x + 2, 1, none⟩) sR).trans (ZF.out 1)
    have bW : Below x w w2 := b0.trans (hb2.mono (by omega))
    go_wp2_with (go_at_call 56; refine (inL_any _ _ _ _).mono ?_; rintro e w' ⟨rfl, rfl⟩)
    obtain ⟨⟨z0, z1⟩, r1, r2, r3, r4⟩ := fin_store (w := w) (A := none) (L := []) hT Sl.nil Free.none_ (fun b e => by cases e) (by rw [Hx0.out]; exact bW) (by rw [Hx0.out]; omega) (.slice none 0 0) (.int .i64 0)
    clear v0 v1 f0 f1 hT
    generalize (w2.setCell ⟨x + 2, 0, none⟩ (.slice none 0 0)).setCell ⟨x + 2, 1, none⟩ (.int .i64 0) = wF at *
    exact bodyPost_ret (v := .tuple #[.agg #[.slice none 0 0, .int .i64 0], .int .i64 1]) (by simp [results, Tryz.results21, go_sem, z0, z1]) rfl ⟨[], 0, 1, none, 0, HR.out, rfl, r1, r2, r3, Nat.le_refl _, r4⟩
  have HP := Lib.hid (hbr.1 rfl); clear hbr
  cases hq : inB seq 1 999999
  · have HR := Lib.hid (show AppR xs next seq r [] 0 4 from .inr (.inl ⟨HS.out, HP.out, hq, rfl, rfl, rfl⟩))
    obtain ⟨v0, v1⟩ := (show Two w2 (x + 2) (.slice none 0 0) (.int .i64 0) from ZT.out.below hb2 sR)
    have hT : Two w2 (x + 2) (.slice none 0 0) (.int .i64 0) := ⟨v0, v1⟩
    have f0 : w2.frozen? ⟨x + 2, 0, none⟩ = false := (hb2.frozen (p := ⟨x + 2, 0, none⟩) sR).trans (ZF.out 0)
    have f1 : w2.frozen? ⟨x + 2, 1, none⟩ = false := (hb2.frozen (p := ⟨x + 2, 1, none⟩) sR).trans (ZF.out 1)
    have bW : Below x w w2 := b0.trans (hb2.mono (by omega))
    go_wp2_with (go_at_call 56; refine (inL_any _ _ _ _).mono ?_; rintro e w' ⟨rfl, rfl⟩)
    obtain ⟨⟨z0, z1⟩, r1, r2, r3, r4⟩ := fin_store (w := w) (A := none) (L := []) hT Sl.nil Free.none_ (fun b e => by cases e) (by rw [Hx0.out]; exact bW) (by rw [Hx0.out]; omega) (.slice none 0 0) (.int .i64 0)
    clear v0 v1 f0 f1 hT
    generalize (w2.setCell ⟨x + 2, 0, none⟩ (.slice none 0 0)).setCell ⟨x + 2, 1, none⟩ (.int .i64 0) = wF at *
    exact bodyPost_ret (v := .tuple #[.agg #[.slice none 0 0, .int .i64 0], .int .i64 4]) (by simp [results, Tryz.results21, go_sem, z0, z1]) rfl ⟨[], 0, 4, none, 0, HR.out, rfl, r1, r2, r3, Nat.le_refl _, r4⟩
  have HQ := Lib.hid hq
  obtain ⟨t0, t1⟩ := T0.out.below hb2 (by omega)
  obtain ⟨c0, c1, c2, c3, c4, c5⟩ := (R0.out.below hb2 (by omega)).cells
  go_wp2_with (go_at_call 56; refine (inL_any _ _ _ _).mono ?_; rintro e w' ⟨rfl, rfl⟩)
  refine (l06Append_any b off c next xs seq r B w2 (Sl.below H.out (b0.trans (hb2.mono (by omega))) hB) (by have := hb2.size; omega) HS.out hc (inB_iff.1 HQ.out) Hr.out hk).mono ?_
  rintro e w3 ⟨L, nx, code, A3, c3', hR, rfl, hO3, hb3⟩
  have hLl := absC_len HS.out Hf.out (by rw [manK_size]; decide) hR
  have HR := Lib.hid (show AppR xs next seq r L nx code from .inr (.inr ⟨HS.out, HP.out, HQ.out, hR⟩))
  have hb3w : Below W.heap.size W w3 := hb2.trans (hb3.mono hb2.size)
  have HO3 := Lib.hid hO3
  clear hR hO3 hb3 t0 t1 c0 c1 c2 c3 c4 c5 hq hb2
  go_wp2_with fail
  have y3 : Two (w3.alloc (.cells #[.slice A3 L.length c3', .int .i64 nx] 51)) w3.heap.size (.slice A3 L.length c3') (.int .i64 nx) := Two.new _ _ _ _
  have bb : Below w3.heap.size w3 (w3.alloc (.cells #[.slice A3 L.length c3', .int .i64 nx] 51)) := bal (Below.refl _ _) _
  have sb := bb.size
  have HO4 := Lib.hid (Sl.below HO3.out bb (Nat.le_refl _))
  have hb4 : Below W.heap.size W (w3.alloc (.cells #[.slice A3 L.length c3', .int .i64 nx] 51)) := hb3w.trans (bb.mono hb3w.size)
  generalize w3.alloc (.cells #[.slice A3 L.length c3', .int .i64 nx] 51) = W4 at *
  refine (own_any A3 c3' nx L w3.heap.size W4 HO4.out sb (by omega)).mono ?_
  rintro e wN ⟨v, rfl, A', c', rfl, hsl, hfr, hbl, hcc, hbN⟩
  have hb5 : Below W.heap.size W wN := hb4.trans (hbN.mono hb4.size)
  obtain ⟨v0, v1⟩ := (show Two wN (x + 2) (.slice none 0 0) (.int .i64 0) from ZT.out.below hb5 sR)
  have hT : Two wN (x + 2) (.slice none 0 0) (.int .i64 0) := ⟨v0, v1⟩
  have f0 : wN.frozen? ⟨x + 2, 0, none⟩ = false := (hb5.frozen (p := ⟨x + 2, 0, none⟩) sR).trans (ZF.out 0)
  have f1 : wN.frozen? ⟨x + 2, 1, none⟩ = false := (hb5.frozen (p := ⟨x + 2, 1, none⟩) sR).trans (ZF.out 1)
  have bW : Below x w wN := b0.trans (hb5.mono (by omega))
  have hlow : W.heap.size ≤ W4.heap.size := hb4.size
  have hbl' : ∀ b, blk A' = some b → x + 2 < b ∧ b < wN.heap.size := fun b e => ⟨by have := (hbl b e).1; omega, (hbl b e).2⟩
  clear y3 bb hb3w hbN hb4 HO3 HO4 hb5 sb
  go_wp2
  obtain ⟨⟨z0, z1⟩, r1, r2, r3, r4⟩ := fin_store (w := w) hT hsl hfr hbl' (by rw [Hx0.out]; exact bW) (by rw [Hx0.out]; omega) (.slice A' L.length c') (.int .i64 nx)
  clear v0 v1 f0 f1 hT
  generalize (wN.setCell ⟨x + 2, 0, none⟩ (.slice A' L.length c')).setCell ⟨x + 2, 1, none⟩ (.int .i64 nx) = wF at *
  exact bodyPost_ret (v := .tuple #[.agg #[.slice A' L.length c', .int .i64 nx], .int .i64 code]) (by simp [results, Tryz.results21, go_sem, z0, z1]) rfl ⟨L, nx, code, A', c', HR.out, rfl, r1, r2, r3, hcc, r4⟩

end Go.Proofs.YthmpmagajbmpaaaGreatDoor

/- The answers of AppendRecord are one; a record beside a store. No Go text is walked here. -/
namespace Go.Proofs.YthmpmagajbmpaaaGreatDoor
open Go.RowKit
set_option linter.unusedVariables false

theorem putP_one {L L' L2 : List GObj} {next nx nx2 ver ver2 code code2 : Int} {key data : ByteArray} (h : PutP L next key data ver code L' nx) (h' : PutP L next key data ver2 code2 L2 nx2) : L2 = L' ∧ nx2 = nx ∧ ver2 = ver ∧ code2 = code := by
  rcases h with ⟨h1, a, b, c, d⟩ | ⟨h1, h2, a, b, c, d⟩ | ⟨h1, h2, a, b, c, d⟩ <;> rcases h' with ⟨k1, a', b', c', d'⟩ | ⟨k1, k2, a', b', c', d'⟩ | ⟨k1, k2, a', b', c', d'⟩
  · exact ⟨by rw [c, c'], by rw [d, d'], by rw [a, a'], by rw [b, b']⟩
  · exact absurd h1 k1
  · exact absurd h1 k1
  · exact absurd k1 h1
  · exact ⟨by rw [c, c'], by rw [d, d'], by rw [a, a'], by rw [b, b']⟩
  · exact absurd h2 k2
  · exact absurd k1 h1
  · exact absurd k2 h2
  · exact ⟨by rw [c, c'], by rw [d, d'], by rw [a, a'], by rw [b, b']⟩

theorem AbsC.one {xs : List GObj} {next : Int} {key data : ByteArray} {L L' : List GObj} {nx nx' c c' : Int} (h : AbsC xs next key data L nx c) (h' : AbsC xs next key data L' nx' c') : L' = L ∧ nx' = nx ∧ c' = c := by
  rcases h with ⟨h1, rfl, rfl, rfl⟩ | ⟨h1, v, h2, _⟩ <;> rcases h' with ⟨k1, e1, e2, e3⟩ | ⟨k1, v', k2, _⟩
  · exact ⟨e1, e2, e3⟩
  · exact absurd k1 h1
  · exact absurd h1 k1
  · have := putP_one h2 k2; exact ⟨this.1, this.2.1, this.2.2.2⟩

theorem AppR.one {xs : List GObj} {next seq : Int} {r : GRec} {L L' : List GObj} {nx nx' c c' : Int} (h : AppR xs next seq r L nx c) (h' : AppR xs next seq r L' nx' c') : L' = L ∧ nx' = nx ∧ c' = c := by
  rcases h with ⟨h1, rfl, rfl, rfl⟩ | ⟨h1, h2, h3, rfl, rfl, rfl⟩ | ⟨h1, h2, h3, h4⟩ <;> rcases h' with ⟨k1, e1, e2, e3⟩ | ⟨k1, k2, k3, e1, e2, e3⟩ | ⟨k1, k2, k3, k4⟩
  · exact ⟨e1, e2, e3⟩
  · exact absurd ⟨k1, k2⟩ h1
  · exact absurd ⟨k1, k2⟩ h1
  · exact absurd ⟨h1, h2⟩ k1
  · exact ⟨e1, e2, e3⟩
  · rw [h3] at k3; cases k3
  · exact absurd ⟨h1, h2⟩ k1
  · rw [h3] at k3; cases k3
  · exact AbsC.one h4 k4

theorem AppR.len {xs : List GObj} {next seq : Int} {r : GRec} {L : List GObj} {nx c : Int} (h : AppR xs next seq r L nx c) : L.length ≤ 400 := by
  rcases h with ⟨_, rfl, _⟩ | ⟨_, _, _, rfl, _⟩ | ⟨h1, _, _, h4⟩
  · simp
  · simp
  · have := h1.2.2.1
    rcases h4 with ⟨_, rfl, _⟩ | ⟨_, v, h2, _⟩
    · omega
    · rcases h2 with ⟨_, _, _, rfl, _⟩ | ⟨_, _, _, _, rfl, _⟩ | ⟨_, _, _, _, rfl, _⟩
      · omega
      · omega
      · have := setL_len ⟨manK seq, next, recT r⟩ xs; omega

/-- a store's box and, behind it, a record's -/
def TwoR (w : World) (x : Nat) (u v : Value) (r : GRec) : Prop := Two w x u v ∧ RecAt w (x + 1) r

theorem TwoR.below {w w' : World} {x B : Nat} {u v : Value} {r : GRec} (h : TwoR w x u v r) (hb : Below B w w') (hB : x + 1 < B) : TwoR w' x u v r := ⟨h.1.below hb (by omega), h.2.below hb hB⟩

/-- the two boxes and a store's objects, kept -/
def KeptR (V : World) (x : Nat) (u v : Value) (r : GRec) (A2 : Option Addr) (ys : List GObj) (w : World) : Prop := Below V.heap.size V w ∧ TwoR w x u v r ∧ ObjsAt w w.heap.size A2 ys

theorem KeptR.size {V w : World} {x : Nat} {u v : Value} {r : GRec} {A2 : Option Addr} {ys : List GObj} (K : KeptR V x u v r A2 ys w) : V.heap.size ≤ w.heap.size := K.1.size

theorem KeptR.step {V w w7 : World} {x : Nat} {u v : Value} {r : GRec} {A2 : Option Addr} {ys : List GObj} (K : KeptR V x u v r A2 ys w) (sx : x + 1 < V.heap.size) (hb : Below w.heap.size w w7) : KeptR V x u v r A2 ys w7 :=
  ⟨K.1.trans (hb.mono K.1.size), K.2.1.below hb (by have := K.1.size; omega), Sl.more (Sl.below K.2.2 hb (Nat.le_refl _)) hb.size⟩

theorem KeptR.alloc {V w : World} {x : Nat} {u v : Value} {r : GRec} {A2 : Option Addr} {ys : List GObj} (K : KeptR V x u v r A2 ys w) (sx : x + 1 < V.heap.size) (o : Obj) : KeptR V x u v r A2 ys (w.alloc o) := K.step sx (bal (Below.refl _ _) o)

theorem keptR_first {V : World} {x : Nat} {u v : Value} {r : GRec} {A2 : Option Addr} {ys : List GObj} (K : KeptR V x u v r A2 ys V) (sx : x + 1 < V.heap.size) (o : Obj) : KeptR V x u v r A2 ys (V.alloc o).drew := by
  have := K.alloc sx o
  exact ⟨this.1.drew, this.2.1, this.2.2⟩

theorem KeptR.withO {V w : World} {x : Nat} {u v : Value} {r : GRec} {A2 A3 : Option Addr} {ys zs : List GObj} (K : KeptR V x u v r A2 ys w) (h : ObjsAt w w.heap.size A3 zs) : KeptR V x u v r A3 zs w := ⟨K.1, K.2.1, h⟩

theorem KeptR.held {V w : World} {x : Nat} {u v : Value} {r : GRec} {A2 : Option Addr} {ys : List GObj} (K : KeptR V x u v r A2 ys w) : ObjsAt w w.heap.size A2 ys := K.2.2

theorem KeptR.toA {V w : World} {x : Nat} {u v : Value} {r : GRec} {A2 : Option Addr} {ys : List GObj} (K : KeptR V x u v r A2 ys w) : KeptA V x u v w := ⟨K.1, K.2.1.1⟩

theorem KeptR.objs {V w a : World} {x B : Nat} {u v : Value} {r : GRec} {A2 A : Option Addr} {ys xs : List GObj} (K : KeptR V x u v r A2 ys w) (H : ObjsAt a B A xs) (hV : Below B a V) (hB : B ≤ V.heap.size) : ObjsAt w B A xs ∧ B ≤ w.heap.size :=
  ⟨Sl.below H (hV.trans (K.1.mono hB)) (Nat.le_refl _), Nat.le_trans hB K.1.size⟩

theorem KeptR.cells {V w : World} {x : Nat} {u v : Value} {r : GRec} {A2 : Option Addr} {ys : List GObj} (K : KeptR V x u v r A2 ys w) : w.cell? ⟨x, 0, none⟩ = some u ∧ w.cell? ⟨x, 1, none⟩ = some v ∧ w.cell? ⟨x + 1, 0, none⟩ = some (.int .i64 r.kind) ∧ w.cell? ⟨x + 1, 1, none⟩ = some (.int .i64 r.tok) ∧ w.cell? ⟨x + 1, 2, none⟩ = some (.int .i64 r.tier) ∧ w.cell? ⟨x + 1, 3, none⟩ = some (.int .i64 r.beg) ∧ w.cell? ⟨x + 1, 4, none⟩ = some (.int .i64 r.fin) ∧ w.cell? ⟨x + 1, 5, none⟩ = some (.string r.key) := ⟨K.2.1.1.1, K.2.1.1.2, K.2.1.2.cells⟩

theorem keptR_cells {V w : World} {x n : Nat} {u v : Value} {r : GRec} {A2 : Option Addr} {ys : List GObj} (K : KeptR V x u v r A2 ys w) (hn : V.heap.size ≤ n) (sx : x + 1 < V.heap.size) (v0 v1 : Value) :
    ((w.setCell ⟨n, 0, none⟩ v0).setCell ⟨n, 1, none⟩ v1).cell? ⟨x, 0, none⟩ = some u ∧ ((w.setCell ⟨n, 0, none⟩ v0).setCell ⟨n, 1, none⟩ v1).cell? ⟨x, 1, none⟩ = some v ∧ ((w.setCell ⟨n, 0, none⟩ v0).setCell ⟨n, 1, none⟩ v1).cell? ⟨x + 1, 0, none⟩ = some (.int .i64 r.kind) ∧ ((w.setCell ⟨n, 0, none⟩ v0).setCell ⟨n, 1, none⟩ v1).cell? ⟨x + 1, 1, none⟩ = some (.int .i64 r.tok) ∧ ((w.setCell ⟨n, 0, none⟩ v0).setCell ⟨n, 1, none⟩ v1).cell? ⟨x + 1, 2, none⟩ = some (.int .i64 r.tier) ∧ ((w.setCell ⟨n, 0, none⟩ v0).setCell ⟨n, 1, none⟩ v1).cell? ⟨x + 1, 3, none⟩ = some (.int .i64 r.beg) ∧ ((w.setCell ⟨n, 0, none⟩ v0).setCell ⟨n, 1, none⟩ v1).cell? ⟨x + 1, 4, none⟩ = some (.int .i64 r.fin) ∧ ((w.setCell ⟨n, 0, none⟩ v0).setCell ⟨n, 1, none⟩ v1).cell? ⟨x + 1, 5, none⟩ = some (.string r.key) := by
  have k := K.cells
  refine ⟨farA _ _ (by omega) k.1, farA _ _ (by omega) k.2.1, farA _ _ (by omega) k.2.2.1, farA _ _ (by omega) k.2.2.2.1, farA _ _ (by omega) k.2.2.2.2.1, farA _ _ (by omega) k.2.2.2.2.2.1, farA _ _ (by omega) k.2.2.2.2.2.2.1, farA _ _ (by omega) k.2.2.2.2.2.2.2⟩

/-- beside these, one store's box more -/
def KeptQ (V : World) (x y : Nat) (u v p q : Value) (r : GRec) (A2 : Option Addr) (ys : List GObj) (w : World) : Prop := KeptR V x u v r A2 ys w ∧ Two w y p q

theorem KeptQ.toR {V w : World} {x y : Nat} {u v p q : Value} {r : GRec} {A2 : Option Addr} {ys : List GObj} (K : KeptQ V x y u v p q r A2 ys w) : KeptR V x u v r A2 ys w := K.1

theorem KeptQ.low {V w : World} {x y : Nat} {u v p q : Value} {r : GRec} {A2 : Option Addr} {ys : List GObj} (K : KeptQ V x y u v p q r A2 ys w) : Below V.heap.size V w := K.1.1

theorem KeptQ.size {V w : World} {x y : Nat} {u v p q : Value} {r : GRec} {A2 : Option Addr} {ys : List GObj} (K : KeptQ V x y u v p q r A2 ys w) : V.heap.size ≤ w.heap.size := K.1.size

theorem KeptQ.step {V w w7 : World} {x y : Nat} {u v p q : Value} {r : GRec} {A2 : Option Addr} {ys : List GObj} (K : KeptQ V x y u v p q r A2 ys w) (sx : x + 1 < V.heap.size) (sy : y < V.heap.size) (hb : Below w.heap.size w w7) : KeptQ V x y u v p q r A2 ys w7 :=
  ⟨K.1.step sx hb, K.2.below hb (by have := K.1.size; omega)⟩

theorem KeptQ.alloc {V w : World} {x y : Nat} {u v p q : Value} {r : GRec} {A2 : Option Addr} {ys : List GObj} (K : KeptQ V x y u v p q r A2 ys w) (sx : x + 1 < V.heap.size) (sy : y < V.heap.size) (o : Obj) : KeptQ V x y u v p q r A2 ys (w.alloc o) := K.step sx sy (bal (Below.refl _ _) o)

theorem keptQ_first {V : World} {x y : Nat} {u v p q : Value} {r : GRec} {A2 : Option Addr} {ys : List GObj} (K : KeptQ V x y u v p q r A2 ys V) (sx : x + 1 < V.heap.size) (sy : y < V.heap.size) (o : Obj) : KeptQ V x y u v p q r A2 ys (V.alloc o).drew := ⟨keptR_first K.1 sx o, (K.alloc sx sy o).2⟩

theorem KeptQ.cells {V w : World} {x y : Nat} {u v p q : Value} {r : GRec} {A2 : Option Addr} {ys : List GObj} (K : KeptQ V x y u v p q r A2 ys w) : w.cell? ⟨y, 0, none⟩ = some p ∧ w.cell? ⟨y, 1, none⟩ = some q ∧ w.cell? ⟨x + 1, 0, none⟩ = some (.int .i64 r.kind) ∧ w.cell? ⟨x + 1, 1, none⟩ = some (.int .i64 r.tok) ∧ w.cell? ⟨x + 1, 2, none⟩ = some (.int .i64 r.tier) ∧ w.cell? ⟨x + 1, 3, none⟩ = some (.int .i64 r.beg) ∧ w.cell? ⟨x + 1, 4, none⟩ = some (.int .i64 r.fin) ∧ w.cell? ⟨x + 1, 5, none⟩ = some (.string r.key) := ⟨K.2.1, K.2.2, K.1.cells.2.2⟩

theorem keptQ_cells {V w : World} {x y n : Nat} {u v p q : Value} {r : GRec} {A2 : Option Addr} {ys : List GObj} (K : KeptQ V x y u v p q r A2 ys w) (hn : V.heap.size ≤ n) (sx : x + 1 < V.heap.size) (sy : y < V.heap.size) (v0 v1 : Value) :
    ((w.setCell ⟨n, 0, none⟩ v0).setCell ⟨n, 1, none⟩ v1).cell? ⟨y, 0, none⟩ = some p ∧ ((w.setCell ⟨n, 0, none⟩ v0).setCell ⟨n, 1, none⟩ v1).cell? ⟨y, 1, none⟩ = some q ∧ ((w.setCell ⟨n, 0, none⟩ v0).setCell ⟨n, 1, none⟩ v1).cell? ⟨x + 1, 0, none⟩ = some (.int .i64 r.kind) ∧ ((w.setCell ⟨n, 0, none⟩ v0).setCell ⟨n, 1, none⟩ v1).cell? ⟨x + 1, 1, none⟩ = some (.int .i64 r.tok) ∧ ((w.setCell ⟨n, 0, none⟩ v0).setCell ⟨n, 1, none⟩ v1).cell? ⟨x + 1, 2, none⟩ = some (.int .i64 r.tier) ∧ ((w.setCell ⟨n, 0, none⟩ v0).setCell ⟨n, 1, none⟩ v1).cell? ⟨x + 1, 3, none⟩ = some (.int .i64 r.beg) ∧ ((w.setCell ⟨n, 0, none⟩ v0).setCell ⟨n, 1, none⟩ v1).cell? ⟨x + 1, 4, none⟩ = some (.int .i64 r.fin) ∧ ((w.setCell ⟨n, 0, none⟩ v0).setCell ⟨n, 1, none⟩ v1).cell? ⟨x + 1, 5, none⟩ = some (.string r.key) :=
  ⟨farA _ _ (by omega) K.2.1, farA _ _ (by omega) K.2.2, (keptR_cells K.1 hn sx v0 v1).2.2⟩

/-- the result's block is not the box that stood before the call -/
theorem zlow {B : Nat} {w w' : World} {n : Nat} {A : Option Addr} (Z : ZedA B w n) (hb : ∀ b, blk A = some b → w.heap.size ≤ b ∧ b < w'.heap.size) : ∀ b, blk A = some b → b ≠ n := fun b e h => by
  have := (hb b e).1; have := Z.2.2.2.1; omega

theorem alow {w w' : World} {o : Obj} {A : Option Addr} (hb : ∀ b, blk A = some b → (w.alloc o).heap.size ≤ b ∧ b < w'.heap.size) : ∀ b, blk A = some b → b ≠ w.heap.size := fun b e h => by
  have h1 := (hb b e).1
  simp at h1
  omega

theorem alowD {w w' : World} {o : Obj} {A : Option Addr} (hb : ∀ b, blk A = some b → (w.alloc o).drew.heap.size ≤ b ∧ b < w'.heap.size) : ∀ b, blk A = some b → b ≠ w.heap.size := fun b e h => by
  have h1 : (w.alloc o).heap.size ≤ b := (hb b e).1
  simp at h1
  omega

end Go.Proofs.YthmpmagajbmpaaaGreatDoor

/- Contracts of markStore and heldStore: marks are written into every object of a store, and found there. -/
namespace Go.Proofs.YthmpmagajbmpaaaGreatDoor
open Go.ChangeShapes Go.WideShapes Go.ChangeAt Go.RowKit
set_option linter.unusedVariables false

theorem markStore_any (A : Option Addr) (c : Nat) (next k : Int) (xs : List GObj) (B : Nat) (w : World) (h : ObjsAt w B A xs) (hf : Free w A) (hA : ∀ b, blk A = some b → b < w.heap.size) (hB : B ≤ w.heap.size) (hl : xs.length ≤ 16777216) (hk0 : 0 ≤ k) (hk : k ≤ 16777216) :
    Calls Tryz.prog 20 #[.agg #[.slice A xs.length c, .int .i64 next], .int .i64 k] w fun e w' => e = .returned (.int .i64 (k + 3 * xs.length)) ∧ ObjsAt w' B A (marks k xs.length) ∧ w.grownBy w' (blk A) ∧ Free w' A := by
  have H := Lib.hid h; clear h
  have Hf := Lib.hid hf; clear hf
  have HA := Lib.hid hA; clear hA
  go_enter Tryz.func20, Tryz.ntmps20
  go_wp2_with fail
  refine (markObjectS_any A c k xs B _ (Sl.below H.out (bal (Below.refl _ _) _) hB) (Hf.out.below (bal (Below.refl _ _) _) HA.out) (by simp; omega) hl hk0 hk).mono ?_
  rintro e w1 ⟨rfl, ho, hg, hf1⟩
  have hg1 : w.grownBy w1 (blk A) := grown_trans (World.grownBy_alloc w _ _) hg
  have Ho := Lib.hid ho; clear ho hg
  have Hf1 := Lib.hid hf1; clear hf1
  go_wp2
  go_ret
  exact ⟨rfl, Ho.out, hg1, Hf1.out⟩

theorem heldStore_any (A : Option Addr) (c n : Nat) (next k : Int) (B : Nat) (w : World) (h : ObjsAt w B A (marks k n)) (hB : B ≤ w.heap.size) (hl : n ≤ 16777216) (hk0 : 0 ≤ k) (hk : k ≤ 16777216) :
    Calls Tryz.prog 23 #[.agg #[.slice A n c, .int .i64 next], .int .i64 k] w fun e w' => e = .returned (.int .i64 (k + 3 * n)) ∧ Below w.heap.size w w' := by
  have H := Lib.hid h; clear h
  have hd : decide (k + 3 * (n : Int) < 0) = false := by simp; omega
  go_enter Tryz.func23, Tryz.ntmps23
  go_wp2_with fail
  refine (heldObjectS_any A c n k B _ (Sl.below H.out (bal (Below.refl _ _) _) hB) (by simp; omega) hl hk0 hk).mono ?_
  rintro e w1 ⟨rfl, hb1⟩
  have hb2 := bnext (bal (Below.refl _ _) _) hb1
  clear hb1
  go_wp2
  go_ret
  exact ⟨rfl, hb2⟩

end Go.Proofs.YthmpmagajbmpaaaGreatDoor

/- Contracts of toObjectS and toStore again, with the new slice's address said. -/
namespace Go.Proofs.YthmpmagajbmpaaaGreatDoor
open Go.ChangeShapes Go.WideShapes Go.ChangeAt Go.RowKit
set_option linter.unusedVariables false

set_option maxRecDepth 100000 in
theorem toObjectS_at (A : Option Addr) (c : Nat) (xs : List GObj) (B : Nat) (w : World) (h : ObjsAt w B A xs) (hB : B ≤ w.heap.size) (hl : xs.length ≤ 1048576) :
    Calls Tryz.prog 49 #[.slice A xs.length c] w fun e w' => ∃ g c' : Nat, e = .returned (.slice (some ⟨g, 0, none⟩) xs.length c') ∧ ObjsAt w' w'.heap.size (some ⟨g, 0, none⟩) xs ∧ Free w' (some ⟨g, 0, none⟩) ∧ (∀ b, blk (some ⟨g, 0, none⟩) = some b → w.heap.size ≤ b ∧ b < w'.heap.size) ∧ xs.length ≤ c' ∧ Below w.heap.size w w' := by
  have H := Lib.hid h; clear h
  have hmk := make_objs xs.length hl
  go_enter Tryz.func49, Tryz.ntmps49
  go_wp2_with fail
  have hsl := zeroObjs_sl xs.length w
  have hfr := zeroObjs_free xs.length w
  have hbw : Below w.heap.size w (w.alloc (zeroObjs xs.length)) := bal (Below.refl _ _) _
  have hsz : w.heap.size < (w.alloc (zeroObjs xs.length)).heap.size := by simp
  generalize w.alloc (zeroObjs xs.length) = w0 at hsl hfr hbw hsz ⊢
  clear hmk
  have Hsl := Lib.hid hsl; clear hsl
  have Hfr := Lib.hid hfr; clear hfr
  go_loopw [4] (fun i wr => ∃ j : Nat, j ≤ xs.length ∧ i = .int .i64 j ∧ Hid (ObjsAt wr (w.heap.size + 1) (some ⟨w.heap.size, 0, none⟩) (xs.take j ++ (List.replicate xs.length zObj).drop j)) ∧ Hid (Free wr (some ⟨w.heap.size, 0, none⟩)) ∧ w.heap.size < wr.heap.size ∧ Below w.heap.size w wr) (fun i _ => xs.length - (intOf i).toNat)
  case atStart => exact ⟨0, by omega, rfl, Lib.hid (by simpa using Hsl.out), Hfr, hsz, hbw⟩
  case round =>
    clear Hsl Hfr hbw hsz
    obtain ⟨j, hj, rfl, Hr, Hf, hs, hb⟩ := hrel
    by_cases hlt : j < xs.length
    · obtain ⟨b, off, rfl, hbB, p0, p1, p2⟩ := ObjsAt.obj (Sl.below H.out hb hB) hlt
      have hjl : j < (xs.take j ++ (List.replicate xs.length zObj).drop j).length := by simp; omega
      obtain ⟨g, o, e, hgB, q0, q1, q2⟩ := ObjsAt.obj Hr.out hjl
      injection e with e
      injection e with e1 e2
      subst e1 e2
      obtain ⟨v0, q0⟩ : ∃ v, wr.cell? ⟨w.heap.size, 0 + j * 3, none⟩ = some v := ⟨_, q0⟩
      obtain ⟨v1, q1⟩ : ∃ v, wr.cell? ⟨w.heap.size, 0 + j * 3 + 1, none⟩ = some v := ⟨_, q1⟩
      obtain ⟨v2, q2⟩ : ∃ v, wr.cell? ⟨w.heap.size, 0 + j * 3 + 2, none⟩ = some v := ⟨_, q2⟩
      have fz : ∀ i, wr.frozen? ⟨w.heap.size, i, none⟩ = false := Hf.out _ rfl
      rw [Nat.zero_add] at q0 q1 q2
      have Q0 := Lib.hid q0; clear q0
      have Q1 := Lib.hid q1; clear q1
      have Q2 := Lib.hid q2; clear q2
      have Fz := Lib.hid fz; clear fz
      go_wp2_with fail
      refine (toObject_any xs[j] wr).mono ?_
      rintro e w1 ⟨rfl, hb1⟩
      have c0 : w1.cell? ⟨w.heap.size, j * 3, none⟩ = some v0 := (hb1.cell hs).trans Q0.out
      have c1 : w1.cell? ⟨w.heap.size, j * 3 + 1, none⟩ = some v1 := (hb1.cell hs).trans Q1.out
      have c2 : w1.cell? ⟨w.heap.size, j * 3 + 2, none⟩ = some v2 := (hb1.cell hs).trans Q2.out
      have f0 : w1.frozen? ⟨w.heap.size, j * 3, none⟩ = false := (hb1.frozen hs).trans (Fz.out _)
      have f1 : w1.frozen? ⟨w.heap.size, j * 3 + 1, none⟩ = false := (hb1.frozen hs).trans (Fz.out _)
      have f2 : w1.frozen? ⟨w.heap.size, j * 3 + 2, none⟩ = false := (hb1.frozen hs).trans (Fz.out _)
      have hn := ObjsAt.store (w1 := w1) Hr.out hjl (fun i => hb1.cell hs) xs[j]
      rw [take_set xs _ j hlt (by simpa using hlt)] at hn
      have Hn := Lib.hid hn; clear hn
      have hfn : Free (((w1.setCell ⟨w.heap.size, j * 3, none⟩ (.string xs[j].key)).setCell ⟨w.heap.size, j * 3 + 1, none⟩ (.int .i64 xs[j].ver)).setCell ⟨w.heap.size, j * 3 + 2, none⟩ (.string xs[j].data)) (some ⟨w.heap.size, 0, none⟩) := fun b e i => by
        simp [blk] at e; subst e
        rw [frozen_setCell, frozen_setCell, frozen_setCell]; exact (hb1.frozen hs).trans (Fz.out i)
      have Hfn := Lib.hid hfn; clear hfn
      have hsn : w.heap.size < w1.heap.size := by have := hb1.size; omega
      have hbn : Below w.heap.size w (((w1.setCell ⟨w.heap.size, j * 3, none⟩ (.string xs[j].key)).setCell ⟨w.heap.size, j * 3 + 1, none⟩ (.int .i64 xs[j].ver)).setCell ⟨w.heap.size, j * 3 + 2, none⟩ (.string xs[j].data)) :=
        bset (bset (bset (bnext hb hb1) (Nat.le_refl _) _) (Nat.le_refl _) _) (Nat.le_refl _) _
      have Hbn := Lib.hid hbn; clear hbn
      go_wp2
      go_roundw
      case rel => exact ⟨j + 1, by omega, by go_num, Hn, Hfn, by simpa [World.setCell] using hsn, Hbn.out⟩
      case measure => simp [intOf]; omega
    · obtain rfl : j = xs.length := by omega
      have hn : ObjsAt wr (w.heap.size + 1) (some ⟨w.heap.size, 0, none⟩) xs := by simpa using Hr.out
      have Hn := Lib.hid hn; clear hn
      go_wp2
      go_ret
      exact ⟨_, _, rfl, Sl.more Hn.out hs, Hf.out, fun b e => by simp [blk] at e; subst e; exact ⟨Nat.le_refl _, hs⟩, Nat.le_refl _, hb⟩

theorem toStore_at (A : Option Addr) (c : Nat) (next : Int) (xs : List GObj) (B : Nat) (w : World) (h : ObjsAt w B A xs) (hB : B ≤ w.heap.size) (hl : xs.length ≤ 1048576) :
    Calls Tryz.prog 17 #[.agg #[.slice A xs.length c, .int .i64 next]] w fun e w' => ∃ g c' : Nat, e = .returned (.agg #[.slice (some ⟨g, 0, none⟩) xs.length c', .int .i64 next]) ∧ ObjsAt w' w'.heap.size (some ⟨g, 0, none⟩) xs ∧ Free w' (some ⟨g, 0, none⟩) ∧ (∀ b, blk (some ⟨g, 0, none⟩) = some b → w.heap.size ≤ b ∧ b < w'.heap.size) ∧ xs.length ≤ c' ∧ Below w.heap.size w w' := by
  have H := Lib.hid h; clear h
  go_enter Tryz.func17, Tryz.ntmps17
  go_wp2_with fail
  refine (toObjectS_at A c xs B _ (Sl.below H.out (bal (bal (bal (Below.refl _ _) _) _) _) hB) (by simp; omega) hl).mono ?_
  rintro e w1 ⟨g1, c1, rfl, ho, hf, hbl, hc, hb1⟩
  have hsz : w.heap.size + 3 ≤ w1.heap.size := by have := hb1.size; simp at this; omega
  have b0 : w1.cell? ⟨w.heap.size, 1, none⟩ = some (.int .i64 next) := by rw [hb1.cell (by simp <;> omega)]; simp [go_sem]
  have b1 : w1.cell? ⟨w.heap.size + 1, 0, none⟩ = some (.slice none 0 0) := by rw [hb1.cell (by simp <;> omega)]; simp [go_sem]
  have b2 : w1.cell? ⟨w.heap.size + 1, 1, none⟩ = some (.int .i64 0) := by rw [hb1.cell (by simp <;> omega)]; simp [go_sem]
  have b3 : w1.cell? ⟨w.heap.size + 1 + 1, 0, none⟩ = some (.slice none 0 0) := by rw [hb1.cell (by simp)]; simp [go_sem]
  have b4 : w1.cell? ⟨w.heap.size + 1 + 1, 1, none⟩ = some (.int .i64 0) := by rw [hb1.cell (by simp)]; simp [go_sem]
  have f1 : w1.frozen? ⟨w.heap.size + 1, 0, none⟩ = false := by rw [hb1.frozen (by simp <;> omega)]; simp [go_sem]
  have f2 : w1.frozen? ⟨w.heap.size + 1, 1, none⟩ = false := by rw [hb1.frozen (by simp <;> omega)]; simp [go_sem]
  have f3 : w1.frozen? ⟨w.heap.size + 1 + 1, 0, none⟩ = false := by rw [hb1.frozen (by simp)]; simp [go_sem]
  have f4 : w1.frozen? ⟨w.heap.size + 1 + 1, 1, none⟩ = false := by rw [hb1.frozen (by simp)]; simp [go_sem]
  have hb2 : Below w.heap.size w w1 := bnext (bal (bal (bal (Below.refl _ _) _) _) _) hb1
  have hbl2 : ∀ b, blk (some (⟨g1, 0, none⟩ : Addr)) = some b → w.heap.size + 3 ≤ b ∧ b < w1.heap.size := fun b e => ⟨by have := (hbl b e).1; simp at this; omega, (hbl b e).2⟩
  have Hbl := Lib.hid hbl2
  have Ho := Lib.hid ho
  have Hf := Lib.hid hf
  clear hbl hbl2 ho hf hb1
  go_wp2
  refine bodyPost_ret (v := .agg #[.slice (some ⟨g1, 0, none⟩) xs.length c1, .int .i64 next]) (by simp [results, Tryz.results17, go_sem, *]) rfl ⟨g1, c1, rfl, ?_, ?_, ?_, hc, ?_⟩
  · rw [size_setCell, size_setCell, size_setCell, size_setCell]
    refine Sl.far (Sl.far (Sl.far (Sl.far Ho.out ?_ _) ?_ _) ?_ _) ?_ _
    all_goals (intro b e; have := (Hbl.out b e).1; dsimp only; omega)
  · exact (((Hf.out.setCell _ _).setCell _ _).setCell _ _).setCell _ _
  · intro b e
    rw [size_setCell, size_setCell, size_setCell, size_setCell]
    exact ⟨by have := (Hbl.out b e).1; omega, (Hbl.out b e).2⟩
  · exact bset (bset (bset (bset hb2 (by show _ ≤ w.heap.size + 1 + 1; omega) _) (by show _ ≤ w.heap.size + 1 + 1; omega) _) (by show _ ≤ w.heap.size + 1; omega) _) (by show _ ≤ w.heap.size + 1; omega) _

end Go.Proofs.YthmpmagajbmpaaaGreatDoor

/- A slice that came in, opened: whatever its element, each as so many cells; a slice of objects; a store. No Go text is walked here. -/
namespace Go.Proofs.YthmpmagajbmpaaaGreatDoor
open Go.ChangeShapes Go.WideShapes Go.ChangeAt Go.RowKit Go.Deep Go.Joins
set_option linter.unusedVariables false

theorem cellsLObj : Tryz.prog.cellsOf 132 = 3 := by kernel_rfl

theorem cellsLStore : Tryz.prog.cellsOf 45 = 2 := by kernel_rfl

theorem cellsInt : Tryz.prog.cellsOf 3 = 1 := by kernel_rfl

theorem cellsString : Tryz.prog.cellsOf 9 = 1 := by kernel_rfl

section

variable {H : Type} {enc : TypeId × Value → H} {w : World} {base : Nat} {spare : Nat → Bool} {held : Bool}

theorem open_obj' {P : Program} {t : TypeId} {f0 f1 f2 : Field} {n : Nat} {cs : List Value} {y : DataW H × List MemPlace} (ht : P.underlying t = some (.struct #[f0, f1, f2])) (hone : oneCellFields P #[f0, f1, f2] = true)
    (g0 : P.underlying f0.type = some .string) (g1 : P.underlying f1.type = some (.int .i64)) (g2 : P.underlying f2.type = some .string) (hl : cs.length = 3) (h : DataW.trod enc P w base spare held n t cs = some y) : ∃ o : GObj, cs = o.vals ∧ o.fit := by
  obtain ⟨y0, y1, y2, m, _, _, h0, h1, h2⟩ := trod_struct3 ht h
  obtain ⟨o0, k0⟩ := hone_of hone 0 f0 rfl
  obtain ⟨o1, k1⟩ := hone_of hone 1 f1 rfl
  obtain ⟨o2, k2⟩ := hone_of hone 2 f2 rfl
  match cs, hl with
  | [a, b, c], _ =>
    rw [o0, k0] at h0
    rw [o1, k1] at h1
    rw [o2, k2] at h2
    obtain ⟨s0, e0, _, l0⟩ := DataW.trod_string g0 h0
    obtain ⟨z1, e1, _, l1⟩ := DataW.trod_int g1 h1
    obtain ⟨s2, e2, _, l2⟩ := DataW.trod_string g2 h2
    simp at e0 e1 e2
    subst e0 e1 e2
    exact ⟨⟨s0, z1, s2⟩, rfl, ⟨l0, l2⟩, l1⟩

theorem open_store' {P : Program} {t e : TypeId} {f0 f1 g0 g1 g2 : Field} {W : World} {r : Reach} {b0 : Nat} {v : Value} {d : DataW H} {p : List MemPlace} (ht : P.underlying t = some (.struct #[f0, f1])) (hone : oneCellFields P #[f0, f1] = true) (hC : P.cellsOf t = 2)
    (hs : P.underlying f0.type = some (.slice e)) (hn : P.underlying f1.type = some (.int .i64)) (he : P.underlying e = some (.struct #[g0, g1, g2])) (hone2 : oneCellFields P #[g0, g1, g2] = true) (hce : P.cellsOf e = 3)
    (k0 : P.underlying g0.type = some .string) (k1 : P.underlying g1.type = some (.int .i64)) (k2 : P.underlying g2.type = some .string)
    (hv : Value.okWide P W r b0 t v) (h : DataW.Trod enc P W base spare held t v d p) :
    ∃ (A : Option Addr) (c : Nat) (xs : List GObj) (next : Int), v = .agg #[.slice A xs.length c, .int .i64 next] ∧ ObjsAt W W.heap.size A xs ∧ (∀ o ∈ xs, o.fit) ∧ xs.length ≤ maxLen ∧ (Lit.int .i64 next).wf = true := by
  obtain ⟨c0, c1, y0, y1, m, rfl, _, _, h0, h1⟩ := open_agg2 ht hone hC hv h
  obtain ⟨z1, e1, _, l1⟩ := DataW.trod_int hn h1
  obtain ⟨A, c, xs, rfl, hs, hq, hl⟩ := open_sl GObj.vals 3 GObj.fit hs hce (by omega) (fun n cs y hc hy => open_obj' he hone2 k0 k1 k2 hc hy) h0
  simp at e1
  subst e1
  exact ⟨A, c, xs, z1, rfl, hs, hq, hl, l1⟩

set_option maxRecDepth 100000 in
theorem open_store {W : World} {r : Reach} {b0 : Nat} {v : Value} {d : DataW H} {p : List MemPlace} (hv : Value.okWide Tryz.prog W r b0 45 v) (h : DataW.Trod enc Tryz.prog W base spare held 45 v d p) :
    ∃ (A : Option Addr) (c : Nat) (xs : List GObj) (next : Int), v = .agg #[.slice A xs.length c, .int .i64 next] ∧ ObjsAt W W.heap.size A xs ∧ (∀ o ∈ xs, o.fit) ∧ xs.length ≤ maxLen ∧ (Lit.int .i64 next).wf = true :=
  open_store' Tryz.underlying45 (by kernel_rfl) cellsLStore Tryz.underlying43 Tryz.underlying3 Tryz.underlying132 (by kernel_rfl) cellsLObj Tryz.underlying9 Tryz.underlying3 Tryz.underlying9 hv h

end

end Go.Proofs.YthmpmagajbmpaaaGreatDoor

/- The library's tables as the program's text lays them: from the condition of a row to what the contracts ask; a world that holds them. -/
namespace Go.Proofs.YthmpmagajbmpaaaGreatDoor
open Go.ChangeShapes Go.WideShapes Go.ChangeAt Go.RowKit
set_option linter.unusedVariables false

theorem own : ownKnob Tryz.prog.godebug = none := by kernel_rfl
theorem laidOut : laidOutB Tryz.prog = true := by kernel_rfl

theorem pow_data : (Rows.laid_internal_strconv_uint64pow10 : DataW Unit) = Lib.tabData .u64 Lib.pow10Tab := by rfl

theorem powG : Tryz.prog.globalNamed "internal/strconv.uint64pow10" = some 3 := by kernel_rfl
theorem powT : (Tryz.prog.globals[3]?).map (·.type) = some 242 := by kernel_rfl
theorem powC : Tryz.prog.cellsOf 242 = 20 := by kernel_rfl
theorem powE : Tryz.prog.cellsOf 222 = 1 := by kernel_rfl

theorem pow_of {W : World} {n1 n2 : String} {d1 d2 : DataW Unit} {rest : List (String × DataW Unit)} (h : laidMet Tryz.prog ((n1, d1) :: (n2, d2) :: ("internal/strconv.uint64pow10", Rows.laid_internal_strconv_uint64pow10) :: rest) W) : Pow W := by
  obtain ⟨ps, ⟨g1, t1, cs1, f1, p1, q1, _, _, _, _, ⟨g2, t2, cs2, f2, p2, q2, _, _, _, _, ⟨g', t', cs, fuel, p, q, hg', ht', hvar, hd, _, _⟩, _⟩, _⟩, _⟩ := h
  obtain rfl := Option.some.inj (powG.symm.trans hg')
  obtain rfl := Option.some.inj (powT.symm.trans ht')
  rw [pow_data] at hd
  unfold Pow Lib.TabIs
  rw [hvar, ← Lib.cells_of_tab Tryz.underlying242 Tryz.underlying222 powE powC hd]

/-- the cells that a table's datum is -/
def tabCells : DataW Unit → Array Value
  | .agg l => (l.map fun | .lit (.int k z) => Value.int k z | _ => .nilIface).toArray
  | _ => #[]

/-- what a table is laid as -/
def layTab (d : DataW Unit) : Obj → Obj
  | .cells _ t frozen => .cells (tabCells d) t frozen
  | o => o

/-- a world that holds the three tables -/
noncomputable def laidWorld (os : Os) : World :=
  { World.holding Tryz.prog os ⟨#[], #[], []⟩ with heap := (((World.holding Tryz.prog os ⟨#[], #[], []⟩).heap.modify 3 (layTab Rows.laid_internal_strconv_uint64pow10)).modify 6 (layTab Rows.laid_math_bits_deBruijn32tab)).modify 7 (layTab Rows.laid_math_bits_deBruijn64tab) }

end Go.Proofs.YthmpmagajbmpaaaGreatDoor

/- The library's tables and the program's paths of tiers as their texts lay them: from the condition of a row to what the contracts ask; a world that holds them; the variable reads behind the call as it read before. -/
namespace Go.Proofs.YthmpmagajbmpaaaGreatDoor
open Go.ChangeShapes Go.WideShapes Go.ChangeAt Go.RowKit
set_option linter.unusedVariables false

theorem gTab : Tryz.prog.globalNamed "loop.example/g00601/impl.tierPaths" = some 1 := by kernel_rfl
theorem gTabType : (Tryz.prog.globals[1]?).map (·.type) = some 217 := by kernel_rfl
theorem cellsTab : Tryz.prog.cellsOf 217 = 3 := by kernel_rfl
theorem cellsStr : Tryz.prog.cellsOf 9 = 1 := by kernel_rfl

theorem bytes_inj {s : ByteArray} {z : List UInt8} (h : s.data.toList = z) : s = ⟨z.toArray⟩ := by
  subst h; rfl

/-- an array of texts that reads as a list of texts holds them, cell for cell -/
theorem cells_of_texts {H : Type} {enc : TypeId × Value → H} {P : Program} {w : World} {base : Nat} {sp : Nat → Bool} {held : Bool} {fuel : Nat} {t e : TypeId} {n : Nat} {cs : List Value} {zs : List (List UInt8)} {p : List MemPlace}
    (ht : P.underlying t = some (.array n e)) (he : P.underlying e = some .string) (hce : P.cellsOf e = 1) (hct : P.cellsOf t = n)
    (h : DataW.trod enc P w base sp held fuel t cs = some (.agg (zs.map fun z => .lit (.string z)), p)) : cs = zs.map fun z => Value.string ⟨z.toArray⟩ := by
  cases fuel with
  | zero => simp [DataW.trod] at h
  | succ fuel =>
    simp only [DataW.trod, ht, hce, hct, Nat.mul_one] at h
    split at h
    · rename_i hl
      obtain ⟨xs, hm, hx⟩ := Option.map_eq_some_iff.1 h
      have hxs : xs.map (·.1) = zs.map fun z => (DataW.lit (.string z) : DataW H) := by
        have := congrArg Prod.fst hx
        simpa using this
      have hxl : xs.length = n := by simpa using Lib.mapM_length hm
      have hzl : zs.length = n := by
        have := congrArg List.length hxs
        simp at this
        omega
      apply List.ext_getElem?
      intro i
      by_cases hi : i < n
      · obtain ⟨b, hb, hf⟩ := Lib.mapM_at hm i i (by simp [hi])
        obtain ⟨s, hc, rfl, _⟩ := DataW.trod_string he hf
        have h1 : cs[i]? = some (.string s) := by
          have := congrArg (·[0]?) hc
          simpa [List.getElem?_take, List.getElem?_drop] using this
        have h2 : (xs.map (·.1))[i]? = some (DataW.lit (.string s.data.toList) : DataW H) := by simp [hb]
        rw [hxs] at h2
        simp only [List.getElem?_map, Option.map_eq_some_iff, DataW.lit.injEq, Lit.string.injEq] at h2
        obtain ⟨z', hz', e1⟩ := h2
        have e2 : s = ⟨z'.toArray⟩ := bytes_inj e1.symm
        simp [h1, hz', e2]
      · rw [List.getElem?_eq_none (by omega), List.getElem?_eq_none (by simp; omega)]
    · cases h

/-- the paths, byte by byte -/
def pl : List (List UInt8) := [[114, 97, 119, 47], [116, 49, 47], [116, 50, 47]]

theorem paths_cells {W : World} {cs : Array Value} (hvar : W.var? Tryz.prog "loop.example/g00601/impl.tierPaths" = some cs) (hcs : cs.toList = pl.map fun z => Value.string ⟨z.toArray⟩) : Paths W ∧ 1 < W.heap.size := by
  have hp : Paths W := by
    intro i hi
    have hv := World.var?_cell gTab hvar i
    rw [hv]
    have : cs[i]? = cs.toList[i]? := by simp
    rw [this, hcs]
    match i, hi with
    | 0, _ => rfl
    | 1, _ => rfl
    | 2, _ => rfl
  exact ⟨hp, World.block_lt_of_cell? W ⟨1, 0, none⟩ (hp 0 (by omega))⟩

theorem paths_of1 {W : World} (h : laidMet Tryz.prog [("loop.example/g00601/impl.tierPaths", Rows.laid_loop_example_g00601_impl_tierPaths)] W) : Paths W ∧ 1 < W.heap.size := by
  obtain ⟨ps, ⟨g', t', cs, fuel, p, q, hg', ht', hvar, hd, _, _⟩, _⟩ := h
  obtain rfl := Option.some.inj (gTab.symm.trans hg')
  obtain rfl := Option.some.inj (gTabType.symm.trans ht')
  have hd' : DataW.trod (fun _ => ()) Tryz.prog W 0 (fun _ => true) false fuel 217 cs.toList = some (.agg (pl.map fun z => .lit (.string z)), p) := hd
  exact paths_cells hvar (cells_of_texts Tryz.underlying217 Tryz.underlying9 cellsStr cellsTab hd')

theorem paths_of4 {W : World} {n1 n2 n3 : String} {d1 d2 d3 : DataW Unit} (h : laidMet Tryz.prog [(n1, d1), (n2, d2), (n3, d3), ("loop.example/g00601/impl.tierPaths", Rows.laid_loop_example_g00601_impl_tierPaths)] W) : Paths W ∧ 1 < W.heap.size := by
  obtain ⟨ps, ⟨g1, t1, cs1, f1, p1, q1, _, _, _, _, ⟨g2, t2, cs2, f2, p2, q2, _, _, _, _, ⟨g3, t3, cs3, f3, p3, q3, _, _, _, _, ⟨g', t', cs, fuel, p, q, hg', ht', hvar, hd, _, _⟩, _⟩, _⟩, _⟩, _⟩ := h
  obtain rfl := Option.some.inj (gTab.symm.trans hg')
  obtain rfl := Option.some.inj (gTabType.symm.trans ht')
  have hd' : DataW.trod (fun _ => ()) Tryz.prog W 0 (fun _ => true) false fuel 217 cs.toList = some (.agg (pl.map fun z => .lit (.string z)), p) := hd
  exact paths_cells hvar (cells_of_texts Tryz.underlying217 Tryz.underlying9 cellsStr cellsTab hd')

/-- the variable reads behind the call as it read ahead of it -/
theorem vars_back {H : Type} {enc : TypeId × Value → H} {W W' : World} {gs : List (DataW H)} {q : List MemPlace} (h : DataW.TrodVars enc Tryz.prog W (fun _ => true) ["loop.example/g00601/impl.tierPaths"] gs q) (hb : Below W.heap.size W W') (h0 : 1 < W.heap.size) (hlt : ∀ x ∈ q, x.block < W.heap.size) :
    DataW.TrodVars enc Tryz.prog W' (fun b => decide (b < W.heap.size)) ["loop.example/g00601/impl.tierPaths"] gs q := by
  obtain ⟨g, t, cs, fuel, d, p, rfl, h1, h2, h3, h4, rfl⟩ := trodVars_one h
  obtain rfl := Option.some.inj (gTab.symm.trans h1)
  obtain rfl := Option.some.inj (gTabType.symm.trans h2)
  have k : DataW.Trod enc Tryz.prog W 0 (fun _ => true) true 217 (.agg cs) d p := ⟨fuel, h4⟩
  obtain ⟨fuel', h4'⟩ := Below.trod laidOut (by kernel_rfl) (of_decide_eq_true (by kernel_rfl)) k hb (fun x hx => hlt x (List.mem_append_right _ hx))
  exact trodVars_mk1 h1 h2 (var?_below hb gTab h0 h3) h4'

/-- the cells that a table's datum is -/
def tabCellsK : DataW Unit → Array Value
  | .agg l => (l.map fun | .lit (.int k z) => Value.int k z | .lit (.string z) => Value.string ⟨z.toArray⟩ | _ => .nilIface).toArray
  | _ => #[]

/-- what a table is laid as -/
def layTabK (d : DataW Unit) : Obj → Obj
  | .cells _ t frozen => .cells (tabCellsK d) t frozen
  | o => o

/-- a world that holds the tables -/
noncomputable def laidWorldK (os : Os) : World :=
  { World.holding Tryz.prog os ⟨#[], #[], []⟩ with heap := ((((World.holding Tryz.prog os ⟨#[], #[], []⟩).heap.modify 3 (layTabK Rows.laid_internal_strconv_uint64pow10)).modify 6 (layTabK Rows.laid_math_bits_deBruijn32tab)).modify 7 (layTabK Rows.laid_math_bits_deBruijn64tab)).modify 1 (layTabK Rows.laid_loop_example_g00601_impl_tierPaths) }

end Go.Proofs.YthmpmagajbmpaaaGreatDoor

/- What a row ties, whichever of the tables it names: one of what is laid, by its name; the program's variables read behind the call as they read ahead of it; worlds that hold the tables. -/
namespace Go.Proofs.YthmpmagajbmpaaaGreatDoor
open Go.ChangeShapes Go.WideShapes Go.ChangeAt Go.RowKit
set_option linter.unusedVariables false

theorem laidVars_at {P : Program} {W : World} : ∀ {L : List (String × DataW Unit)} {ps : List MemPlace}, DataW.LaidVars P W L ps → ∀ {n : String} {d : DataW Unit}, (n, d) ∈ L → ∃ g t cs fuel p, P.globalNamed n = some g ∧ (P.globals[g]?).map (·.type) = some t ∧ W.var? P n = some cs ∧ DataW.trod (fun _ => ()) P W 0 (fun _ => true) false fuel t cs.toList = some (d, p)
  | [], _, _, _, _, hm => by cases hm
  | (n', d') :: r, ps, h, n, d, hm => by
    obtain ⟨g, t, cs, fuel, p, q, h1, h2, h3, h4, h5, _⟩ := h
    rcases List.mem_cons.1 hm with e | hm
    · cases e; exact ⟨g, t, cs, fuel, p, h1, h2, h3, h4⟩
    · exact laidVars_at h5 hm

theorem laid_at {P : Program} {W : World} {L : List (String × DataW Unit)} (h : laidMet P L W) {n : String} {d : DataW Unit} (hm : (n, d) ∈ L) : ∃ g t cs fuel p, P.globalNamed n = some g ∧ (P.globals[g]?).map (·.type) = some t ∧ W.var? P n = some cs ∧ DataW.trod (fun _ => ()) P W 0 (fun _ => true) false fuel t cs.toList = some (d, p) := by
  obtain ⟨ps, h, _⟩ := h
  exact laidVars_at h hm

theorem paths_in {W : World} {L : List (String × DataW Unit)} (h : laidMet Tryz.prog L W) (hm : ("loop.example/g00601/impl.tierPaths", Rows.laid_loop_example_g00601_impl_tierPaths) ∈ L) : Paths W ∧ 1 < W.heap.size := by
  obtain ⟨g', t', cs, fuel, p, hg', ht', hvar, hd⟩ := laid_at h hm
  obtain rfl := Option.some.inj (gTab.symm.trans hg')
  obtain rfl := Option.some.inj (gTabType.symm.trans ht')
  have hd' : DataW.trod (fun _ => ()) Tryz.prog W 0 (fun _ => true) false fuel 217 cs.toList = some (.agg (pl.map fun z => .lit (.string z)), p) := hd
  exact paths_cells hvar (cells_of_texts Tryz.underlying217 Tryz.underlying9 cellsStr cellsTab hd')

theorem pow_in {W : World} {L : List (String × DataW Unit)} (h : laidMet Tryz.prog L W) (hm : ("internal/strconv.uint64pow10", Rows.laid_internal_strconv_uint64pow10) ∈ L) : Pow W := by
  obtain ⟨g', t', cs, fuel, p, hg', ht', hvar, hd⟩ := laid_at h hm
  obtain rfl := Option.some.inj (powG.symm.trans hg')
  obtain rfl := Option.some.inj (powT.symm.trans ht')
  rw [pow_data] at hd
  unfold Pow Lib.TabIs
  rw [hvar, ← Lib.cells_of_tab Tryz.underlying242 Tryz.underlying222 powE powC hd]

theorem gWidA : Tryz.prog.globalNamed "loop.example/g00601/impl.tierWidths" = some 0 := by kernel_rfl
theorem gWidTypeA : (Tryz.prog.globals[0]?).map (·.type) = some 24 := by kernel_rfl
theorem cellsTriA : Tryz.prog.cellsOf 24 = 3 := by kernel_rfl
theorem cellsIntA : Tryz.prog.cellsOf 3 = 1 := by kernel_rfl
theorem widDataA : (Rows.laid_loop_example_g00601_impl_tierWidths : DataW Unit) = Lib.tabData .i64 [1, 5, 20] := rfl

theorem wid_in {W : World} {L : List (String × DataW Unit)} (h : laidMet Tryz.prog L W) (hm : ("loop.example/g00601/impl.tierWidths", Rows.laid_loop_example_g00601_impl_tierWidths) ∈ L) : Tab3 0 wid W ∧ 0 < W.heap.size := by
  obtain ⟨g', t', cs, fuel, p, hg', ht', hvar, hd⟩ := laid_at h hm
  obtain rfl := Option.some.inj (gWidA.symm.trans hg')
  obtain rfl := Option.some.inj (gWidTypeA.symm.trans ht')
  rw [widDataA] at hd
  have hcs := Lib.cells_of_tab Tryz.underlying24 Tryz.underlying3 cellsIntA cellsTriA hd
  have hp : Tab3 0 wid W := by
    intro i hi
    rw [World.var?_cell gWidA hvar i]
    have : cs[i]? = cs.toList[i]? := by simp
    rw [this, hcs, List.getElem?_map]
    rcases three hi with rfl | rfl | rfl <;> rfl
  exact ⟨hp, World.block_lt_of_cell? W ⟨0, 0, none⟩ (hp 0 (by omega))⟩

/-- the program's variables read behind the call as they read ahead of it -/
theorem vars_backs {H : Type} {enc : TypeId × Value → H} {W W' : World} (hb : Below W.heap.size W W') : ∀ (ns : List String) (gs : List (DataW H)) (q : List MemPlace), (∀ n ∈ ns, ∃ g t, Tryz.prog.globalNamed n = some g ∧ (Tryz.prog.globals[g]?).map (·.type) = some t ∧ (t = 217 ∨ t = 24) ∧ g < W.heap.size) →
    DataW.TrodVars enc Tryz.prog W (fun _ => true) ns gs q → (∀ x ∈ q, x.block < W.heap.size) → DataW.TrodVars enc Tryz.prog W' (fun b => decide (b < W.heap.size)) ns gs q
  | [], [], q, _, h, _ => h
  | n :: ns, d :: gs, q, hn, h, hlt => by
    obtain ⟨g, t, cs, fuel, p, q', h1, h2, h3, h4, h5, rfl⟩ := h
    obtain ⟨g', t', e1, e2, et, hz⟩ := hn n (by simp)
    obtain rfl := Option.some.inj (e1.symm.trans h1)
    obtain rfl := Option.some.inj (e2.symm.trans h2)
    have k : DataW.Trod enc Tryz.prog W 0 (fun _ => true) true t' (.agg cs) d p := ⟨fuel, h4⟩
    have k2 : DataW.Trod enc Tryz.prog W' 0 (fun b => decide (b < W.heap.size)) true t' (.agg cs) d p := by
      rcases et with rfl | rfl
      · exact Below.trod laidOut (by kernel_rfl) (of_decide_eq_true (by kernel_rfl)) k hb (fun x hx => hlt x (List.mem_append_left _ (List.mem_append_right _ hx)))
      · exact Below.trod laidOut (by kernel_rfl) (of_decide_eq_true (by kernel_rfl)) k hb (fun x hx => hlt x (List.mem_append_left _ (List.mem_append_right _ hx)))
    obtain ⟨fuel', h4'⟩ := k2
    exact ⟨g', t', cs, fuel', p, q', h1, h2, var?_below hb h1 hz h3, h4', vars_backs hb ns gs q' (fun m hm => hn m (List.mem_cons_of_mem _ hm)) h5 (fun x hx => hlt x (List.mem_append_right _ hx)), rfl⟩
  | [], _ :: _, _, _, h, _ => by cases h
  | _ :: _, [], _, _, h, _ => by cases h

/-- the cells that a table's datum is, of numbers, of texts or of structs of numbers -/
def tabCellsA : DataW Unit → Array Value
  | .agg l => (l.flatMap fun | .lit (.int k z) => [Value.int k z] | .lit (.string z) => [Value.string ⟨z.toArray⟩] | .agg m => (m.map fun | .lit (.int k z) => Value.int k z | _ => .nilIface) | _ => []).toArray
  | _ => #[]

def layTabA (d : DataW Unit) : Obj → Obj
  | .cells _ t frozen => .cells (tabCellsA d) t frozen
  | o => o

/-- a world that holds the tables of numbers, the paths and the widths -/
noncomputable def laidWorldD (os : Os) : World :=
  { World.holding Tryz.prog os ⟨#[], #[], []⟩ with heap := (((((World.holding Tryz.prog os ⟨#[], #[], []⟩).heap.modify 3 (layTabA Rows.laid_internal_strconv_uint64pow10)).modify 6 (layTabA Rows.laid_math_bits_deBruijn32tab)).modify 7 (layTabA Rows.laid_math_bits_deBruijn64tab)).modify 1 (layTabA Rows.laid_loop_example_g00601_impl_tierPaths)).modify 0 (layTabA Rows.laid_loop_example_g00601_impl_tierWidths) }

end Go.Proofs.YthmpmagajbmpaaaGreatDoor

/- What a record that is handed in is: six cells that are five numbers and a text. No Go text is walked here. -/
namespace Go.Proofs.YthmpmagajbmpaaaGreatDoor
open Go.ChangeShapes Go.WideShapes Go.ChangeAt Go.RowKit Go.Deep Go.Joins
set_option linter.unusedVariables false
set_option linter.unusedSimpArgs false

section

variable {H : Type} {enc : TypeId × Value → H} {base : Nat} {spare : Nat → Bool} {held : Bool}

theorem trod_fields {P : Program} {w : World} {t : TypeId} {fs : Array Field} {fuel : Nat} {cs : List Value} {x : DataW H × List MemPlace} (ht : P.underlying t = some (.struct fs)) (h : DataW.trod enc P w base spare held fuel t cs = some x) :
    cs.length = P.cellsOf t ∧ ∃ n, ∀ (i : Nat) (f : Field), fs[i]? = some f → ∃ y, DataW.trod enc P w base spare held n f.type ((cs.drop f.offset).take (P.cellsOf f.type)) = some y := by
  obtain ⟨xs, n, _, rfl, hl, hlen, hf⟩ := DataW.trod_struct ht h
  refine ⟨hl, n, fun i f hi => ?_⟩
  have h1 := hf i f hi
  have hil : i < xs.length := by
    rw [hlen]
    exact (Array.getElem?_eq_some_iff.1 hi).1
  rw [List.getElem?_eq_getElem hil] at h1
  exact ⟨_, h1⟩

theorem open_rec' {P : Program} {w : World} {t : TypeId} {f0 f1 f2 f3 f4 f5 : Field} {n : Nat} {cs : List Value} {y : DataW H × List MemPlace} (ht : P.underlying t = some (.struct #[f0, f1, f2, f3, f4, f5])) (hone : oneCellFields P #[f0, f1, f2, f3, f4, f5] = true)
    (g0 : P.underlying f0.type = some (.int .i64)) (g1 : P.underlying f1.type = some (.int .i64)) (g2 : P.underlying f2.type = some (.int .i64)) (g3 : P.underlying f3.type = some (.int .i64)) (g4 : P.underlying f4.type = some (.int .i64)) (g5 : P.underlying f5.type = some .string) (hl : cs.length = 6) (h : DataW.trod enc P w base spare held n t cs = some y) : ∃ o : GRec, cs = o.vals ∧ o.fit := by
  obtain ⟨_, m, hf⟩ := trod_fields ht h
  obtain ⟨y0, h0⟩ := hf 0 f0 rfl
  obtain ⟨o0, k0⟩ := hone_of hone 0 f0 rfl
  rw [o0, k0] at h0
  obtain ⟨y1, h1⟩ := hf 1 f1 rfl
  obtain ⟨o1, k1⟩ := hone_of hone 1 f1 rfl
  rw [o1, k1] at h1
  obtain ⟨y2, h2⟩ := hf 2 f2 rfl
  obtain ⟨o2, k2⟩ := hone_of hone 2 f2 rfl
  rw [o2, k2] at h2
  obtain ⟨y3, h3⟩ := hf 3 f3 rfl
  obtain ⟨o3, k3⟩ := hone_of hone 3 f3 rfl
  rw [o3, k3] at h3
  obtain ⟨y4, h4⟩ := hf 4 f4 rfl
  obtain ⟨o4, k4⟩ := hone_of hone 4 f4 rfl
  rw [o4, k4] at h4
  obtain ⟨y5, h5⟩ := hf 5 f5 rfl
  obtain ⟨o5, k5⟩ := hone_of hone 5 f5 rfl
  rw [o5, k5] at h5
  match cs, hl with
  | [x0, x1, x2, x3, x4, x5], _ =>
    obtain ⟨z0, e0, _, l0⟩ := DataW.trod_int g0 h0
    obtain ⟨z1, e1, _, l1⟩ := DataW.trod_int g1 h1
    obtain ⟨z2, e2, _, l2⟩ := DataW.trod_int g2 h2
    obtain ⟨z3, e3, _, l3⟩ := DataW.trod_int g3 h3
    obtain ⟨z4, e4, _, l4⟩ := DataW.trod_int g4 h4
    obtain ⟨z5, e5, _, l5⟩ := DataW.trod_string g5 h5
    simp at e0 e1 e2 e3 e4 e5
    subst e0 e1 e2 e3 e4 e5
    exact ⟨⟨z0, z1, z2, z3, z4, z5⟩, rfl, i64_of_wf l0, i64_of_wf l1, i64_of_wf l2, i64_of_wf l3, i64_of_wf l4, l5⟩

/-- a record that came in -/
theorem open_rec0 {P : Program} {t : TypeId} {f0 f1 f2 f3 f4 f5 : Field} {W : World} {r : Reach} {b0 : Nat} {v : Value} {d : DataW H} {p : List MemPlace} (ht : P.underlying t = some (.struct #[f0, f1, f2, f3, f4, f5])) (hone : oneCellFields P #[f0, f1, f2, f3, f4, f5] = true) (hC : P.cellsOf t = 6)
    (g0 : P.underlying f0.type = some (.int .i64)) (g1 : P.underlying f1.type = some (.int .i64)) (g2 : P.underlying f2.type = some (.int .i64)) (g3 : P.underlying f3.type = some (.int .i64)) (g4 : P.underlying f4.type = some (.int .i64)) (g5 : P.underlying f5.type = some .string)
    (hv : Value.okWide P W r b0 t v) (h : DataW.Trod enc P W base spare held t v d p) : ∃ a : GRec, v = .agg #[.int .i64 a.kind, .int .i64 a.tok, .int .i64 a.tier, .int .i64 a.beg, .int .i64 a.fin, .string a.key] ∧ a.fit := by
  obtain ⟨cs, rfl, hsz⟩ := okWide_struct ht hv
  obtain ⟨fuel, hf⟩ := h
  obtain ⟨l⟩ := cs
  simp only [Value.cells] at hf
  obtain ⟨a, e, hfit⟩ := open_rec' ht hone g0 g1 g2 g3 g4 g5 (by have := (trod_fields ht hf).1; rw [hC] at this; exact this) hf
  subst e
  exact ⟨a, rfl, hfit⟩

theorem cellsLRec : Tryz.prog.cellsOf 28 = 6 := by kernel_rfl

set_option maxRecDepth 100000 in
theorem open_lrec {W : World} {r : Reach} {b0 : Nat} {v : Value} {d : DataW H} {p : List MemPlace} (hv : Value.okWide Tryz.prog W r b0 28 v) (h : DataW.Trod enc Tryz.prog W base spare held 28 v d p) :
    ∃ a : GRec, v = .agg #[.int .i64 a.kind, .int .i64 a.tok, .int .i64 a.tier, .int .i64 a.beg, .int .i64 a.fin, .string a.key] ∧ a.fit :=
  open_rec0 Tryz.underlying28 (by kernel_rfl) cellsLRec Tryz.underlying3 Tryz.underlying3 Tryz.underlying3 Tryz.underlying3 Tryz.underlying3 Tryz.underlying9 hv h

end

end Go.Proofs.YthmpmagajbmpaaaGreatDoor
