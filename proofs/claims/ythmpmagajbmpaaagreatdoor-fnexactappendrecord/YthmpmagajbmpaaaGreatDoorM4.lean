/-
  Several texts as one: contracts that the law leans on; each part says what it proves and its conditions.
-/
import Derived.Test.YthmpmagajbmpaaaGreatDoorM1
import Derived.Test.YthmpmagajbmpaaaGreatDoorRdKey
import Derived.Test.YthmpmagajbmpaaaGreatDoorKeyOK
import Derived.Test.YthmpmagajbmpaaaGreatDoorM2
import Derived.Deep.DeepCutAuto
import Derived.Deep.RegionHeld3

/- Reading a record's text: what the parts at the first blank say of it; a record's variable of zeros. No Go text is walked here. -/
namespace Go.Proofs.YthmpmagajbmpaaaGreatDoor
open Go.ChangeShapes Go.WideShapes Go.ChangeAt Go.RowKit Go.Deep Go.Joins
set_option linter.unusedVariables false
set_option linter.unusedSimpArgs false

theorem sixT_digR {b : UInt8} {n : Nat} (h : b ∈ (sixT n).data.toList) : keyB (b.toNat : Int) = true := by
  have one : ∀ k : Nat, k < 10 → keyB ((UInt8.ofNat (48 + k)).toNat : Int) = true := by
    intro k hk
    have : (UInt8.ofNat (48 + k)).toNat = 48 + k := by simp; omega
    rw [this]
    simp only [keyB, decide_eq_true_eq]
    omega
  simp only [sixT, List.mem_cons, List.not_mem_nil, or_false] at h
  rcases h with rfl | rfl | rfl | rfl | rfl | rfl <;> exact one _ (Nat.mod_lt _ (by omega))

theorem key_noblank {key : ByteArray} {t n m : Int} (h : IsKey key t n m) : (32 : UInt8) ∉ key.data.toList := by
  have hk := (key_list h).1
  rw [hk]
  have h6 : ∀ k : Nat, (32 : UInt8) ∉ sixL k := fun k hm => by
    have := sixT_digR (n := k) hm
    revert this; decide
  have hp : ∀ k, (32 : UInt8) ∉ pathL k := fun k => by
    match k with
    | 0 => decide
    | 1 => decide
    | _ + 2 =>
      show (32 : UInt8) ∉ pathL 2
      decide
  intro hm
  rcases List.mem_append.1 hm with hm | hm
  · exact hp _ hm
  rcases List.mem_append.1 hm with hm | hm
  · exact h6 _ hm
  rcases List.mem_append.1 hm with hm | hm
  · revert hm; decide
  · exact h6 _ hm

theorem RecP.noblank {r : GRec} (h : RecP r) : (32 : UInt8) ∉ r.key.data.toList := by
  rcases h with ⟨_, _, _, h⟩ | ⟨_, _, _, _, _, h⟩ | ⟨_, _, _, h⟩ | ⟨_, _, h⟩ | ⟨_, _, _, _, _, h⟩
  · obtain ⟨t, n, m, h⟩ := h.key; exact key_noblank h
  · rw [h]; intro h; cases h
  · obtain ⟨t, n, m, h⟩ := h.key; exact key_noblank h
  · obtain ⟨t, n, m, h⟩ := h.key; exact key_noblank h
  · obtain ⟨t, n, m, h⟩ := h; exact key_noblank h

theorem recT_cut {r : GRec} (h : RecP r) : CutOf (recT r) 32 [joinT (r.nums.map numT) comma] r.key :=
  ⟨by rw [recT_list]; simp [flatC], fun p hp => by simp at hp; subst hp; exact head_noblank r, h.noblank⟩

/-- a text that is not two parts is no record's -/
theorem noRec_cut {t : ByteArray} {ps : List ByteArray} {last : ByteArray} (h : CutOf t 32 ps last) (hn : ps.length ≠ 1) : NoRec t := by
  rintro r ⟨hp, rfl⟩
  obtain ⟨e, _⟩ := CutOf.one (t := recT r) (recT_cut hp) h
  rw [← e] at hn
  exact hn rfl

theorem recRead_cut {t p last : ByteArray} {r : GRec} (h : CutOf t 32 [p] last) (hr : RecRead t r) : NumsOf p 44 r.nums ∧ r.key = last := by
  obtain ⟨hp, rfl⟩ := hr
  obtain ⟨e, e2⟩ := CutOf.one (t := recT r) (recT_cut hp) h
  simp at e
  exact ⟨e ▸ nums5_of r, e2⟩

theorem noRec_nums {t p last : ByteArray} (h : CutOf t 32 [p] last) (hno : ∀ ms, ms.length = 5 → (∀ m ∈ ms, Small m) → ¬ NumsOf p 44 ms) : NoRec t := fun r hr =>
  hno r.nums rfl (recP_small hr.1) (recRead_cut h hr).1

theorem noRec_bad {t p : ByteArray} {r : GRec} (h : CutOf t 32 [p] r.key) (hN : NumsOf p 44 r.nums) (hf : ∀ n ∈ r.nums, FitI n) (hp : ¬ RecP r) : NoRec t := fun s hs => by
  obtain ⟨h1, h2⟩ := recRead_cut h hs
  have := nums_one comma_no hN h1 hf (fun n hn => small_fitI (recP_small hs.1 n hn))
  apply hp
  obtain ⟨a0, a1, a2, a3, a4, a5⟩ := r
  obtain ⟨b0, b1, b2, b3, b4, b5⟩ := s
  simp [GRec.nums] at this h2
  obtain ⟨rfl, rfl, rfl, rfl, rfl⟩ := this
  subst h2
  exact hs.1

theorem recRead_ok {t p : ByteArray} {r : GRec} (h : CutOf t 32 [p] r.key) (hN : NumsOf p 44 r.nums) (hp : RecP r) : RecRead t r :=
  ⟨hp, recRead_of (b := r.key) (by rw [h.1]; simp [flatC]) hN rfl⟩

/-- what the model's reading of a record's text answers -/
def RecRd (t : ByteArray) (r : GRec) (b : Bool) : Prop := (b = true ∧ RecRead t r) ∨ (b = false ∧ r = zRec ∧ NoRec t)

theorem five_list {ns : List Int} (h : ns.length = 5) (key : ByteArray) : ∃ r : GRec, r.nums = ns ∧ r.key = key := by
  match ns, h with
  | [a, b, c, d, e], _ => exact ⟨⟨a, b, c, d, e, key⟩, rfl, rfl⟩

theorem nums_cells5 {w : World} {B b o : Nat} {r : GRec} (h : Sl niV 1 w B (some ⟨b, o, none⟩) r.nums) : (w.cell? ⟨b, o, none⟩ = some (.int .i64 r.kind) ∧ w.cell? ⟨b, o + 1, none⟩ = some (.int .i64 r.tok) ∧ w.cell? ⟨b, o + 2, none⟩ = some (.int .i64 r.tier) ∧ w.cell? ⟨b, o + 3, none⟩ = some (.int .i64 r.beg) ∧ w.cell? ⟨b, o + 4, none⟩ = some (.int .i64 r.fin)) ∧ b < B := by
  obtain ⟨b', o', e, hb, hc⟩ := h (by simp [GRec.nums])
  injection e with e
  injection e with e1 e2
  subst e1 e2
  exact ⟨⟨hc 0 (by simp [GRec.nums]) 0 _ rfl, hc 1 (by simp [GRec.nums]) 0 _ rfl, hc 2 (by simp [GRec.nums]) 0 _ rfl, hc 3 (by simp [GRec.nums]) 0 _ rfl, hc 4 (by simp [GRec.nums]) 0 _ rfl⟩, hb⟩

/-- a record's variable, of zeros, in block x -/
def ZeroR (w : World) (x : Nat) : Prop := RecAt w x zRec ∧ Free w (some ⟨x, 0, none⟩) ∧ x < w.heap.size

theorem ZeroR.new (w : World) (t : TypeId) : ZeroR (w.alloc (.cells #[.int .i64 0, .int .i64 0, .int .i64 0, .int .i64 0, .int .i64 0, .string ⟨#[]⟩] t)) w.heap.size := ⟨RecAt.new w zRec t, free_alloc w _ t 0, by simp⟩

theorem ZeroR.below {w w' : World} {x B : Nat} (h : ZeroR w x) (hb : Below B w w') (hB : x < B) : ZeroR w' x :=
  ⟨h.1.below hb hB, h.2.1.below hb (fun b e => by simp [blk] at e; omega), Nat.lt_of_lt_of_le h.2.2 hb.size⟩

theorem ZeroR.grown {w w' : World} {x : Nat} {row : Option Nat} (h : ZeroR w x) (hg : w.grownBy w' row) (hr : some x ≠ row) : ZeroR w' x := by
  have hblk := hg.block x h.2.2 hr
  refine ⟨fun j v hv => (World.cell?_of_block (a := ⟨x, 0 + j, none⟩) hblk).trans (h.1 j v hv), fun b e i => ?_, Nat.lt_of_lt_of_le h.2.2 hg.size⟩
  simp [blk] at e
  subst e
  exact (World.frozen?_of_block (a := ⟨x, i, none⟩) hblk).trans (h.2.1 x rfl i)

theorem ZeroR.cells {w : World} {n : Nat} (h : ZeroR w n) : (w.cell? ⟨n, 0, none⟩ = some (.int .i64 0) ∧ w.cell? ⟨n, 1, none⟩ = some (.int .i64 0) ∧ w.cell? ⟨n, 2, none⟩ = some (.int .i64 0) ∧ w.cell? ⟨n, 3, none⟩ = some (.int .i64 0) ∧ w.cell? ⟨n, 4, none⟩ = some (.int .i64 0) ∧ w.cell? ⟨n, 5, none⟩ = some (.string ⟨#[]⟩)) ∧
    w.frozen? ⟨n, 0, none⟩ = false ∧ w.frozen? ⟨n, 1, none⟩ = false ∧ w.frozen? ⟨n, 2, none⟩ = false ∧ w.frozen? ⟨n, 3, none⟩ = false ∧ w.frozen? ⟨n, 4, none⟩ = false ∧ w.frozen? ⟨n, 5, none⟩ = false :=
  ⟨h.1.cells, h.2.1 _ rfl 0, h.2.1 _ rfl 1, h.2.1 _ rfl 2, h.2.1 _ rfl 3, h.2.1 _ rfl 4, h.2.1 _ rfl 5⟩

theorem Cells.setK {w : World} {b o : Nat} {vs : List Value} (h : Cells w b o vs) {k : Nat} (hk : k < vs.length) (u : Value) : Cells (w.setCell ⟨b, o + k, none⟩ u) b o (vs.set k u) := fun j v hv => by
  by_cases e : k = j
  · subst e
    rw [List.getElem?_set_self hk] at hv
    cases hv
    exact cset_eq _ _ _ _ (h k vs[k] (List.getElem?_eq_getElem hk))
  · rw [List.getElem?_set_ne e] at hv
    exact (cset_ne _ _ _ _ _ (by omega)).trans (h j v hv)

theorem setRec_below {B x : Nat} {a w : World} (h : Below B a w) (hx : B ≤ x) (v0 v1 v2 v3 v4 v5 : Value) : Below B a ((((((w.setCell ⟨x, 0, none⟩ v0).setCell ⟨x, 1, none⟩ v1).setCell ⟨x, 2, none⟩ v2).setCell ⟨x, 3, none⟩ v3).setCell ⟨x, 4, none⟩ v4).setCell ⟨x, 5, none⟩ v5) :=
  (((((h.setCell hx _).setCell hx _).setCell hx _).setCell hx _).setCell hx _).setCell hx _

end Go.Proofs.YthmpmagajbmpaaaGreatDoor

/- Contracts of AppendRecord of both packages. Conditions: the tables are as their texts lay them; lengths. -/
namespace Go.Proofs.YthmpmagajbmpaaaGreatDoor
open Go.ChangeShapes Go.WideShapes Go.ChangeAt Go.RowKit Go.Deep Go.Joins
set_option linter.unusedVariables false
set_option linter.unusedSimpArgs false

/-- the key of a record's object -/
def manK (n : Int) : ByteArray := ⟨#[109, 97, 110, 47]⟩ ++ sixT n.toNat

theorem manK_size (n : Int) : (manK n).size = 10 := by
  unfold manK
  rw [ByteArray.size_append, sixT_size]
  rfl

theorem manK_good (n : Int) : KeyP (manK n) := by
  refine ⟨by rw [manK_size]; omega, by rw [manK_size]; omega, fun k h => ?_⟩
  have hm : (manK n)[k] ∈ (manK n).data.toList := by
    have : (manK n)[k] = (manK n).data[k] := rfl
    rw [this]
    exact Array.getElem_mem_toList _
  have hd : (manK n).data.toList = [109, 97, 110, 47] ++ (sixT n.toNat).data.toList := by simp [manK, ByteArray.data_append]
  rw [hd] at hm
  rcases List.mem_append.1 hm with hm | hm
  · simp at hm
    rcases hm with h | h | h | h <;> rw [h] <;> decide
  · exact sixT_digR hm

/-- what AppendRecord answers -/
def AppR (xs : List GObj) (next seq : Int) (r : GRec) (L : List GObj) (nx code : Int) : Prop :=
  (¬ (StoreP xs next ∧ RecP r) ∧ L = [] ∧ nx = 0 ∧ code = 1) ∨ (StoreP xs next ∧ RecP r ∧ inB seq 1 999999 = false ∧ L = [] ∧ nx = 0 ∧ code = 4) ∨ (StoreP xs next ∧ RecP r ∧ inB seq 1 999999 = true ∧ AbsC xs next (manK seq) (recT r) L nx code)

theorem recKey_any (n : Int) (h : 1 ≤ n ∧ n ≤ 999999) (w : World) (ht : Pow w) : Calls Tryz.prog 52 #[.int .i64 n] w fun e w' => e = .returned (.string (manK n)) ∧ Below w.heap.size w w' := by
  obtain ⟨m, rfl⟩ := Int.eq_ofNat_of_zero_le (show 0 ≤ n by omega)
  have hm : m ≤ 999999 := by omega
  have hc := keyedText_any m hm
  have HC := Lib.hid hc; clear hc
  have Ht := Lib.hid ht; clear ht
  have E := Lib.hid (show manK (m : Int) = ⟨#[109, 97, 110, 47]⟩ ++ sixT m from by simp [manK])
  have s6 := sixT_size m
  generalize sixT m = K at *
  go_enter Tryz.func52, Tryz.ntmps52
  go_wp2_with fail
  refine (HC.out w Ht.out).mono ?_
  rintro e w1 ⟨rfl, hb1⟩
  go_wp2
  go_ret
  exact ⟨by rw [E.out]; rfl, hb1⟩

theorem l06Key_any (n : Int) (h : 1 ≤ n ∧ n ≤ 999999) (w : World) : Calls Tryz.prog 85 #[.int .i64 n] w fun e w' => e = .returned (.string (manK n)) ∧ Below w.heap.size w w' := by
  obtain ⟨m, rfl⟩ := Int.eq_ofNat_of_zero_le (show 0 ≤ n by omega)
  have hm : m ≤ 999999 := by omega
  have HC := Lib.hid (wide_any m hm)
  have E := Lib.hid (show manK (m : Int) = ⟨#[109, 97, 110, 47]⟩ ++ sixT m from by simp [manK])
  have s6 := sixT_size m
  generalize sixT m = K at *
  go_enter Tryz.func85, Tryz.ntmps85
  go_wp2_with fail
  refine (HC.out w).mono ?_
  rintro e w1 ⟨rfl, hb1⟩
  go_wp2
  go_ret
  exact ⟨by rw [E.out]; rfl, hb1⟩

/-- a block holds two cells and no more -/
def NoMoreA (w : World) (x : Nat) : Prop := ∀ i, 2 ≤ i → w.cell? ⟨x, i, none⟩ = none

theorem NoMoreA.new (w : World) (u v : Value) (t : TypeId) : NoMoreA (w.alloc (.cells #[u, v] t)) w.heap.size := fun i hi => by
  rw [World.cell?_alloc_new]
  have : ¬ i < 2 := by omega
  simp [this]

theorem NoMoreA.below {w w' : World} {x B : Nat} (h : NoMoreA w x) (hb : Below B w w') (hB : x < B) : NoMoreA w' x := fun i hi => (hb.cell (p := ⟨x, i, none⟩) hB).trans (h i hi)

theorem fin_objsA {wN : World} {x : Nat} {A : Option Addr} {L : List GObj} (hs : ObjsAt wN wN.heap.size A L) (hn : NoMoreA wN x) (v0 v1 : Value) :
    ObjsAt ((wN.setCell ⟨x, 0, none⟩ v0).setCell ⟨x, 1, none⟩ v1) ((wN.setCell ⟨x, 0, none⟩ v0).setCell ⟨x, 1, none⟩ v1).heap.size A L := by
  rw [size_setCell, size_setCell]
  by_cases hL : L = []
  · subst hL; exact Sl.nil
  · have hf : ∀ b, blk A = some b → b ≠ x := fun b e hb => by
      obtain ⟨b', off, rfl, _, hc⟩ := hs hL
      simp [blk] at e
      subst e hb
      have h0 : 0 < L.length := List.length_pos_iff.2 hL
      have h1 := hc 0 h0 2 (.string L[0].data) rfl
      rw [hn _ (by omega)] at h1
      cases h1
    exact (Sl.far hs (p := ⟨x, 0, none⟩) hf _).far (p := ⟨x, 1, none⟩) hf _

theorem farA {w : World} {n b i : Nat} {u : Value} (v0 v1 : Value) (h : b ≠ n) (hc : w.cell? ⟨b, i, none⟩ = some u) : ((w.setCell ⟨n, 0, none⟩ v0).setCell ⟨n, 1, none⟩ v1).cell? ⟨b, i, none⟩ = some u := by
  rw [World.cell?_setCell_other _ _ _ _ (fun e => h (by injection e with e1; exact e1.symm)), World.cell?_setCell_other _ _ _ _ (fun e => h (by injection e with e1; exact e1.symm))]
  exact hc

set_option maxRecDepth 100000 in
set_option maxHeartbeats 4000000 in
theorem l06Append_any (b off c : Nat) (next : Int) (xs : List GObj) (seq : Int) (r : GRec) (B : Nat) (w : World) (h : ObjsAt w B (some ⟨b, off, none⟩) xs) (hB : B ≤ w.heap.size) (hS : StoreP xs next) (hc : xs.length ≤ c) (hseq : 1 ≤ seq ∧ seq ≤ 999999) (hf : r.fit) (hk : r.key.size ≤ 1048576) :
    Calls Tryz.prog 57 #[.agg #[.slice (some ⟨b, off, none⟩) xs.length c, .int .i64 next], .int .i64 seq, .agg #[.int .i64 r.kind, .int .i64 r.tok, .int .i64 r.tier, .int .i64 r.beg, .int .i64 r.fin, .string r.key]] w (StS (AbsC xs next (manK seq) (recT r)) w) := by
  have hn := fit_nums5 ⟨hf.1, hf.2.1, hf.2.2.1, hf.2.2.2.1, hf.2.2.2.2.1⟩
  have hkey := fun W => l06Key_any seq hseq W
  have htxt := fun W => l06Text_any r hn hk W
  have hsz : (recT r).size ≤ maxLen := by
    have := nums5_size hn
    unfold recT maxLen
    rw [ByteArray.size_append, ByteArray.size_append]
    have e : spB.size = 1 := rfl
    omega
  have hkz : (manK seq).size ≤ maxLen := by rw [manK_size]; decide
  have habs := fun (W : World) (hO : ObjsAt W B (some ⟨b, off, none⟩) xs) (hBW : B ≤ W.heap.size) => specAbsent_any b off c next xs (manK seq) (recT r) B W hO hBW hS hc hkz hsz
  generalize manK seq = MK at *
  generalize recT r = RT at *
  have HK := Lib.hid hkey; have HT := Lib.hid htxt; have HA := Lib.hid habs; have H := Lib.hid h
  clear hkey htxt habs h hS hn hf hsz hkz
  go_enter Tryz.func57, Tryz.ntmps57
  go_wp2_with fail
  obtain ⟨W, hW⟩ : ∃ W, W = ((w.alloc (.cells #[.slice (some ⟨b, off, none⟩) xs.length c, .int .i64 next] 51)).alloc (.cells #[.int .i64 r.kind, .int .i64 r.tok, .int .i64 r.tier, .int .i64 r.beg, .int .i64 r.fin, .string r.key] 38)).alloc (.cells #[.slice none 0 0, .int .i64 0] 51) := ⟨_, rfl⟩
  have t0 : Two W w.heap.size (.slice (some ⟨b, off, none⟩) xs.length c) (.int .i64 next) := by rw [hW]; exact ((Two.new w _ _ _).alloc (by simp) _).alloc (by simp; omega) _
  have r0 : RecAt W (w.heap.size + 1) r := by
    rw [hW]
    have := (RecAt.new (w.alloc (.cells #[.slice (some ⟨b, off, none⟩) xs.length c, .int .i64 next] 51)) r 38).below (bal (Below.refl _ _) (.cells #[.slice none 0 0, .int .i64 0] 51)) (by simp)
    simpa using this
  have z0 : Two W (w.heap.size + 2) (.slice none 0 0) (.int .i64 0) ∧ NoMoreA W (w.heap.size + 2) ∧ ∀ i, W.frozen? ⟨w.heap.size + 2, i, none⟩ = false := by
    rw [hW]
    have e : ((w.alloc (.cells #[.slice (some ⟨b, off, none⟩) xs.length c, .int .i64 next] 51)).alloc (.cells #[.int .i64 r.kind, .int .i64 r.tok, .int .i64 r.tier, .int .i64 r.beg, .int .i64 r.fin, .string r.key] 38)).heap.size = w.heap.size + 2 := by simp
    have h1 := Two.new ((w.alloc (.cells #[.slice (some ⟨b, off, none⟩) xs.length c, .int .i64 next] 51)).alloc (.cells #[.int .i64 r.kind, .int .i64 r.tok, .int .i64 r.tier, .int .i64 r.beg, .int .i64 r.fin, .string r.key] 38)) (.slice none 0 0) (.int .i64 0) 51
    have h2 := NoMoreA.new ((w.alloc (.cells #[.slice (some ⟨b, off, none⟩) xs.length c, .int .i64 next] 51)).alloc (.cells #[.int .i64 r.kind, .int .i64 r.tok, .int .i64 r.tier, .int .i64 r.beg, .int .i64 r.fin, .string r.key] 38)) (.slice none 0 0) (.int .i64 0) 51
    have h3 := fun i => free_alloc ((w.alloc (.cells #[.slice (some ⟨b, off, none⟩) xs.length c, .int .i64 next] 51)).alloc (.cells #[.int .i64 r.kind, .int .i64 r.tok, .int .i64 r.tier, .int .i64 r.beg, .int .i64 r.fin, .string r.key] 38)) #[.slice none 0 0, .int .i64 0] 51 0 _ rfl i
    rw [e] at h1 h2 h3
    exact ⟨h1, h2, h3⟩
  have b0 : Below w.heap.size w W := by rw [hW]; exact bal (bal (bal (Below.refl _ _) _) _) _
  have sR : w.heap.size + 2 < W.heap.size := by rw [hW]; simp
  rw [← hW]
  clear hW
  generalize hx0 : w.heap.size = x at *
  have Hx0 := Lib.hid hx0; clear hx0
  have ZT := Lib.hid z0.1; have ZN := Lib.hid z0.2.1; have ZF := Lib.hid z0.2.2
  have KC := Lib.hid (show ∀ w', Below W.heap.size W w' → w'.cell? ⟨x, 0, none⟩ = some (.slice (some ⟨b, off, none⟩) xs.length c) ∧ w'.cell? ⟨x, 1, none⟩ = some (.int .i64 next) ∧ w'.cell? ⟨x + 1, 0, none⟩ = some (.int .i64 r.kind) ∧ w'.cell? ⟨x + 1, 1, none⟩ = some (.int .i64 r.tok) ∧ w'.cell? ⟨x + 1, 2, none⟩ = some (.int .i64 r.tier) ∧ w'.cell? ⟨x + 1, 3, none⟩ = some (.int .i64 r.beg) ∧ w'.cell? ⟨x + 1, 4, none⟩ = some (.int .i64 r.fin) ∧ w'.cell? ⟨x + 1, 5, none⟩ = some (.string r.key) from fun w' hb => ⟨(t0.below hb (by omega)).1, (t0.below hb (by omega)).2, (r0.below hb (by omega)).cells⟩)
  have KD := Lib.hid (show ∀ w' u v, Below W.heap.size W w' → ((w'.setCell ⟨x + 2, 0, none⟩ u).setCell ⟨x + 2, 1, none⟩ v).cell? ⟨x, 0, none⟩ = some (.slice (some ⟨b, off, none⟩) xs.length c) ∧ ((w'.setCell ⟨x + 2, 0, none⟩ u).setCell ⟨x + 2, 1, none⟩ v).cell? ⟨x, 1, none⟩ = some (.int .i64 next) ∧ ((w'.setCell ⟨x + 2, 0, none⟩ u).setCell ⟨x + 2, 1, none⟩ v).cell? ⟨x + 1, 0, none⟩ = some (.int .i64 r.kind) ∧ ((w'.setCell ⟨x + 2, 0, none⟩ u).setCell ⟨x + 2, 1, none⟩ v).cell? ⟨x + 1, 1, none⟩ = some (.int .i64 r.tok) ∧ ((w'.setCell ⟨x + 2, 0, none⟩ u).setCell ⟨x + 2, 1, none⟩ v).cell? ⟨x + 1, 2, none⟩ = some (.int .i64 r.tier) ∧ ((w'.setCell ⟨x + 2, 0, none⟩ u).setCell ⟨x + 2, 1, none⟩ v).cell? ⟨x + 1, 3, none⟩ = some (.int .i64 r.beg) ∧ ((w'.setCell ⟨x + 2, 0, none⟩ u).setCell ⟨x + 2, 1, none⟩ v).cell? ⟨x + 1, 4, none⟩ = some (.int .i64 r.fin) ∧ ((w'.setCell ⟨x + 2, 0, none⟩ u).setCell ⟨x + 2, 1, none⟩ v).cell? ⟨x + 1, 5, none⟩ = some (.string r.key) from fun w' u v hb => by
    have k := KC.out w' hb
    refine ⟨farA _ _ (by omega) k.1, farA _ _ (by omega) k.2.1, farA _ _ (by omega) k.2.2.1, farA _ _ (by omega) k.2.2.2.1, farA _ _ (by omega) k.2.2.2.2.1, farA _ _ (by omega) k.2.2.2.2.2.1, farA _ _ (by omega) k.2.2.2.2.2.2.1, farA _ _ (by omega) k.2.2.2.2.2.2.2⟩)
  clear z0 t0 r0
  refine wp_region_noPanic ?_
  refine wp_region_held_drew (S := (fun w' => w'.cell? ⟨x, 0, none⟩ = some (.slice (some ⟨b, off, none⟩) xs.length c) ∧ w'.cell? ⟨x, 1, none⟩ = some (.int .i64 next) ∧ w'.cell? ⟨x + 1, 0, none⟩ = some (.int .i64 r.kind) ∧ w'.cell? ⟨x + 1, 1, none⟩ = some (.int .i64 r.tok) ∧ w'.cell? ⟨x + 1, 2, none⟩ = some (.int .i64 r.tier) ∧ w'.cell? ⟨x + 1, 3, none⟩ = some (.int .i64 r.beg) ∧ w'.cell? ⟨x + 1, 4, none⟩ = some (.int .i64 r.fin) ∧ w'.cell? ⟨x + 1, 5, none⟩ = some (.string r.key))) (by kernel_rfl) (KC.out _ (Below.refl _ _).drew) (fun hHeld => ?_)
  refine wpAnyH_take (i := 0) (oi := { dst := some 8, op := Op.load 51 (Operand.tmp 3), type := 51, pos := "l06_manifest.go:232", after := #[], guard := none }) (v := ?vb0) rfl (by kernel_rfl) (by kernel_rfl) (by kernel_rfl) (fun _ _ _ h => h) (Or.inl ⟨by rfl, ?hyb0⟩) (by assumption) ?restb0
  case hyb0 => intro w hSw; (try dsimp only at hSw); (obtain ⟨q0, q1, q2, q3, q4, q5, q6, q7⟩ := hSw); (first | (go_simp; done) | (go_simp; with_reducible rfl) | (with_reducible rfl))
  try simp only [Act.put, List.setIfInBounds_toArray, List.set_cons_zero, List.set_cons_succ]
  refine wpAnyH_take (i := 1) (oi := { dst := some 9, op := Op.move (Operand.tmp 1), type := 3, pos := "l06_manifest.go:232", after := #[], guard := none }) (v := ?vb1) rfl (by kernel_rfl) (by kernel_rfl) (by kernel_rfl) (fun _ _ _ h => h) (Or.inl ⟨by rfl, ?hyb1⟩) (by assumption) ?restb1
  case hyb1 => intro w hSw; (try dsimp only at hSw); (obtain ⟨q0, q1, q2, q3, q4, q5, q6, q7⟩ := hSw); (first | (go_simp; done) | (go_simp; with_reducible rfl) | (with_reducible rfl))
  try simp only [Act.put, List.setIfInBounds_toArray, List.set_cons_zero, List.set_cons_succ]
  refine wpAnyH_take (i := 3) (oi := { dst := some 11, op := Op.load 38 (Operand.tmp 5), type := 38, pos := "l06_manifest.go:232", after := #[], guard := none }) (v := ?vb3) rfl (by kernel_rfl) (by kernel_rfl) (by kernel_rfl) (fun _ _ _ h => h) (Or.inl ⟨by rfl, ?hyb3⟩) (by assumption) ?restb3
  case hyb3 => intro w hSw; (try dsimp only at hSw); (obtain ⟨q0, q1, q2, q3, q4, q5, q6, q7⟩ := hSw); (first | (go_simp; done) | (go_simp; with_reducible rfl) | (with_reducible rfl))
  try simp only [Act.put, List.setIfInBounds_toArray, List.set_cons_zero, List.set_cons_succ]
  refine wpAnyH_ready (rs := [2]) (by kernel_rfl) (by simp) ?_
  refine AllReadyH.cons (o := { dst := some 10, op := Op.call { callee := Callee.value (Operand.func 85), args := #[Operand.tmp 9], argTypes := #[3] }, type := 9, pos := "l06_manifest.go:232", after := #[{ on := 1, ground := Ground.data }], guard := none }) rfl (fun K hK => ?_) AllReadyH.nil
  go_simp
  refine (HK.out W.drew).mono ?_
  rintro e1 w1 ⟨rfl, hb1⟩
  have b1 : Below W.heap.size W w1 := (Below.refl _ _).drew.trans hb1
  go_wp2_with fail
  refine hK.out _ _ (KC.out _ b1) (fun hHeld => ?_)
  clear hK K
  try simp only [Act.put, List.setIfInBounds_toArray, List.set_cons_zero, List.set_cons_succ]
  refine wpAnyH_ready (rs := [4]) (by kernel_rfl) (by simp) ?_
  refine AllReadyH.cons (o := { dst := some 12, op := Op.call { callee := Callee.value (Operand.func 93), args := #[Operand.tmp 11], argTypes := #[38] }, type := 9, pos := "l06_manifest.go:232", after := #[{ on := 3, ground := Ground.data }, { on := 2, ground := Ground.chain }], guard := none }) rfl (fun K hK => ?_) AllReadyH.nil
  go_simp
  refine (HT.out w1).mono ?_
  rintro e2 w2 ⟨rfl, hb2⟩
  have b2 : Below W.heap.size W w2 := b1.trans (hb2.mono b1.size)
  go_wp2_with fail
  refine hK.out _ _ (KC.out _ b2) (fun hHeld => ?_)
  clear hK K
  try simp only [Act.put, List.setIfInBounds_toArray, List.set_cons_zero, List.set_cons_succ]
  refine wpAnyH_ready (rs := [5]) (by kernel_rfl) (by simp) ?_
  refine AllReadyH.cons (o := { dst := some 13, op := Op.call { callee := Callee.value (Operand.func 92), args := #[Operand.tmp 8, Operand.tmp 10, Operand.tmp 12], argTypes := #[51, 9, 9] }, type := 56, pos := "l06_manifest.go:232", after := #[{ on := 0, ground := Ground.data }, { on := 2, ground := Ground.data }, { on := 4, ground := Ground.data }, { on := 4, ground := Ground.chain }], guard := none }) rfl (fun K hK => ?_) AllReadyH.nil
  go_simp
  refine (HA.out w2 (Sl.below H.out (b0.trans (b2.mono (by omega))) hB) (by have := b2.size; omega)).mono ?_
  rintro e3 w3 ⟨L, nx, code, A3, c3, hR, rfl, hO3, hb3⟩
  have b3 : Below W.heap.size W w3 := b2.trans (hb3.mono b2.size)
  have HR := Lib.hid hR; have HO3 := Lib.hid hO3
  clear hR hO3
  have s3 : x + 2 < w3.heap.size := Nat.lt_of_lt_of_le sR b3.size
  obtain ⟨z0, z1⟩ := ZT.out.below b3 sR
  have y0 : w3.frozen? ⟨x + 2, 0, none⟩ = false := (b3.frozen (p := ⟨x + 2, 0, none⟩) sR).trans (ZF.out 0)
  have y1 : w3.frozen? ⟨x + 2, 1, none⟩ = false := (b3.frozen (p := ⟨x + 2, 1, none⟩) sR).trans (ZF.out 1)
  go_wp2_with fail
  refine hK.out _ _ (KC.out _ b3) (fun hHeld => ?_)
  clear hK K
  try simp only [Act.put, List.setIfInBounds_toArray, List.set_cons_zero, List.set_cons_succ]
  refine wpAnyH_take (i := 6) (oi := { dst := some 14, op := Op.extract (Operand.tmp 13) 0, type := 51, pos := "l06_manifest.go:232", after := #[{ on := 5, ground := Ground.data }], guard := none }) (v := ?vb6) rfl (by kernel_rfl) (by kernel_rfl) (by kernel_rfl) (fun _ _ _ h => h) (Or.inl ⟨by rfl, ?hyb6⟩) (by assumption) ?restb6
  case hyb6 => intro w hSw; (try dsimp only at hSw); (obtain ⟨q0, q1, q2, q3, q4, q5, q6, q7⟩ := hSw); (first | (go_simp; done) | (go_simp; with_reducible rfl) | (with_reducible rfl))
  try simp only [Act.put, List.setIfInBounds_toArray, List.set_cons_zero, List.set_cons_succ]
  refine wpAnyH_take (i := 7) (oi := { dst := some 15, op := Op.extract (Operand.tmp 13) 1, type := 3, pos := "l06_manifest.go:232", after := #[{ on := 5, ground := Ground.data }], guard := none }) (v := ?vb7) rfl (by kernel_rfl) (by kernel_rfl) (by kernel_rfl) (fun _ _ _ h => h) (Or.inl ⟨by rfl, ?hyb7⟩) (by assumption) ?restb7
  case hyb7 => intro w hSw; (try dsimp only at hSw); (obtain ⟨q0, q1, q2, q3, q4, q5, q6, q7⟩ := hSw); (first | (go_simp; done) | (go_simp; with_reducible rfl) | (with_reducible rfl))
  try simp only [Act.put, List.setIfInBounds_toArray, List.set_cons_zero, List.set_cons_succ]
  refine wpAnyH_ready (rs := [8]) (by kernel_rfl) (by simp) ?_
  refine AllReadyH.cons (o := { dst := none, op := Op.store 51 (Operand.tmp 6) (Operand.tmp 14), type := 0, pos := "l06_manifest.go:232", after := #[{ on := 6, ground := Ground.data }, { on := 5, ground := Ground.chain }, { on := 0, ground := Ground.phase }, { on := 1, ground := Ground.phase }, { on := 2, ground := Ground.phase }, { on := 3, ground := Ground.phase }, { on := 4, ground := Ground.phase }, { on := 5, ground := Ground.phase }, { on := 6, ground := Ground.phase }, { on := 7, ground := Ground.phase }], guard := none }) rfl (fun K hK => ?_) AllReadyH.nil
  go_simp
  refine hK.out _ _ (KD.out _ _ _ b3) (fun hHeld => ?_)
  clear hK K
  try simp only [Act.put, List.setIfInBounds_toArray, List.set_cons_zero, List.set_cons_succ]
  refine wpAnyH_take (i := 9) (oi := { dst := some 7, op := Op.assign (Operand.tmp 15), type := 3, pos := "l06_manifest.go:232", after := #[{ on := 7, ground := Ground.data }, { on := 8, ground := Ground.chain }, { on := 0, ground := Ground.phase }, { on := 1, ground := Ground.phase }, { on := 2, ground := Ground.phase }, { on := 3, ground := Ground.phase }, { on := 4, ground := Ground.phase }, { on := 5, ground := Ground.phase }, { on := 6, ground := Ground.phase }, { on := 7, ground := Ground.phase }, { on := 8, ground := Ground.phase }], guard := none }) (v := ?vb9) rfl (by kernel_rfl) (by kernel_rfl) (by kernel_rfl) (fun _ _ _ h => h) (Or.inl ⟨by rfl, ?hyb9⟩) (by assumption) ?restb9
  case hyb9 => intro w hSw; (try dsimp only at hSw); (obtain ⟨q0, q1, q2, q3, q4, q5, q6, q7⟩ := hSw); (first | (go_simp; done) | (go_simp; with_reducible rfl) | (with_reducible rfl))
  try simp only [Act.put, List.setIfInBounds_toArray, List.set_cons_zero, List.set_cons_succ]
  refine wpAnyH_done (by kernel_rfl) ?_ _
  refine NoPanic.normal ?_
  have HO4 := fin_objsA HO3.out (ZN.out.below b3 sR) (.slice A3 L.length c3) (.int .i64 nx)
  have T4 : Two ((w3.setCell ⟨x + 2, 0, none⟩ (.slice A3 L.length c3)).setCell ⟨x + 2, 1, none⟩ (.int .i64 nx)) (x + 2) (.slice A3 L.length c3) (.int .i64 nx) := (Two.set0 ⟨z0, z1⟩ _).set1 _
  have b4 : Below x w ((w3.setCell ⟨x + 2, 0, none⟩ (.slice A3 L.length c3)).setCell ⟨x + 2, 1, none⟩ (.int .i64 nx)) := ((b0.trans (b3.mono (by omega))).setCell (by show x ≤ x + 2; omega) _).setCell (by show x ≤ x + 2; omega) _
  clear hHeld z0 z1 y0 y1
  obtain ⟨z0, z1⟩ := T4
  generalize (w3.setCell ⟨x + 2, 0, none⟩ (.slice A3 L.length c3)).setCell ⟨x + 2, 1, none⟩ (.int .i64 nx) = wF at *
  go_wp2
  refine bodyPost_ret (v := .tuple #[.agg #[.slice A3 L.length c3, .int .i64 nx], .int .i64 code]) (by simp [results, Tryz.results57, go_sem, z0, z1]) rfl ⟨L, nx, code, A3, c3, HR.out, rfl, HO4, by rw [Hx0.out]; exact b4⟩

end Go.Proofs.YthmpmagajbmpaaaGreatDoor

/- Contract of the program's AppendRecord. Conditions: the tables are as their texts lay them; lengths. -/
namespace Go.Proofs.YthmpmagajbmpaaaGreatDoor
open Go.ChangeShapes Go.WideShapes Go.ChangeAt Go.RowKit Go.Deep Go.Joins
set_option linter.unusedVariables false
set_option linter.unusedSimpArgs false

theorem AbsR.absC {xs : List GObj} {next : Int} {key data : ByteArray} {L : List GObj} {nx ver code : Int} (hS : StoreP xs next) (hK : KeyP key) (hk : key.size ≤ 65536) (hd : data.size ≤ 65536) (h : AbsR xs next key data L nx ver code) : AbsC xs next key data L nx code := by
  have hF : FaultP xs next key [data] 0 := .inr (.inr (.inr ⟨fun h => (by
      rcases h with h | ⟨t, ht, h⟩
      · omega
      · simp at ht; subst ht; omega), hS, hK, rfl⟩))
  rcases h with ⟨h1, h2, _⟩ | ⟨_, h1, rfl, rfl, _, rfl⟩ | ⟨_, h1, h2⟩
  · exact absurd (FaultP.one hF h1) h2
  · exact .inl ⟨h1, rfl, rfl, rfl⟩
  · refine .inr ⟨h1, ver, h2, fun h => ?_, fun h => ?_⟩
    · subst h
      rcases h2 with ⟨_, e, _⟩ | ⟨_, _, e, _⟩ | ⟨_, _, e, _⟩
      · first | (cases e; done) | omega | simp_all
      · first | (cases e; done) | omega | simp_all
      · first | exact e | omega | simp_all
    · rcases h2 with ⟨_, e, e2, _⟩ | ⟨_, _, e, e2, _⟩ | ⟨_, _, e, e2, _⟩
      · first | exact e | omega | simp_all
      · first | exact e | omega | simp_all
      · first | exact absurd e2 h | omega | simp_all

/-- the store's box, kept -/
def KeptA (V : World) (x : Nat) (u v : Value) (w : World) : Prop := Below V.heap.size V w ∧ Two w x u v

theorem KeptA.step {V w w7 : World} {x : Nat} {u v : Value} (K : KeptA V x u v w) (sx : x < V.heap.size) (hb : Below w.heap.size w w7) : KeptA V x u v w7 :=
  ⟨K.1.trans (hb.mono K.1.size), K.2.below hb (by have := K.1.size; omega)⟩

theorem KeptA.size {V w : World} {x : Nat} {u v : Value} (K : KeptA V x u v w) : V.heap.size ≤ w.heap.size := K.1.size

theorem KeptA.low {V w : World} {x : Nat} {u v : Value} (K : KeptA V x u v w) : Below V.heap.size V w := K.1

theorem KeptA.alloc {V w : World} {x : Nat} {u v : Value} (K : KeptA V x u v w) (sx : x < V.heap.size) (o : Obj) : KeptA V x u v (w.alloc o) := K.step sx (bal (Below.refl _ _) o)

theorem keptA_first {V : World} {x : Nat} {u v : Value} (K : KeptA V x u v V) (sx : x < V.heap.size) (o : Obj) : KeptA V x u v (V.alloc o).drew := by
  have := K.alloc sx o
  exact ⟨this.1.drew, this.2⟩

theorem KeptA.objs {V w a : World} {x B X : Nat} {u v : Value} {A : Option Addr} {xs : List GObj} (K : KeptA V x u v w) (H : ObjsAt a B A xs) (hV : Below X a V) (hX : X ≤ V.heap.size) (hB : B ≤ X) : ObjsAt w B A xs ∧ B ≤ w.heap.size :=
  ⟨Sl.below H (hV.trans (K.1.mono hX)) hB, Nat.le_trans hB (Nat.le_trans hX K.1.size)⟩

/-- a new store's block, of zeros, from block B on -/
def ZedA (B : Nat) (w : World) (n : Nat) : Prop := Two w n (.slice none 0 0) (.int .i64 0) ∧ (∀ i, w.frozen? ⟨n, i, none⟩ = false) ∧ NoMoreA w n ∧ n < w.heap.size ∧ B ≤ n

theorem zedA_new {B : Nat} {x : World} (h : B ≤ x.heap.size) (t : TypeId) : ZedA B (x.alloc (.cells #[.slice none 0 0, .int .i64 0] t)) x.heap.size :=
  ⟨Two.new x _ _ t, fun i => free_alloc x #[.slice none 0 0, .int .i64 0] t 0 x.heap.size rfl i, NoMoreA.new x _ _ t, by simp, h⟩

theorem zedA_first (x : World) (t : TypeId) : ZedA x.heap.size (x.alloc (.cells #[.slice none 0 0, .int .i64 0] t)).drew x.heap.size := zedA_new (Nat.le_refl _) t

theorem ZedA.step {B : Nat} {w w' : World} {n : Nat} (h : ZedA B w n) (hb : Below w.heap.size w w') : ZedA B w' n :=
  ⟨h.1.below hb h.2.2.2.1, fun i => (hb.frozen (p := ⟨n, i, none⟩) h.2.2.2.1).trans (h.2.1 i), h.2.2.1.below hb h.2.2.2.1, Nat.lt_of_lt_of_le h.2.2.2.1 hb.size, h.2.2.2.2⟩

theorem ZedA.base {B : Nat} {w : World} {n : Nat} (h : ZedA B w n) : B ≤ n := h.2.2.2.2

theorem ZedA.cells {B : Nat} {w : World} {n : Nat} (h : ZedA B w n) : (w.cell? ⟨n, 0, none⟩ = some (.slice none 0 0) ∧ w.cell? ⟨n, 1, none⟩ = some (.int .i64 0)) ∧ w.frozen? ⟨n, 0, none⟩ = false ∧ w.frozen? ⟨n, 1, none⟩ = false := ⟨h.1, h.2.1 0, h.2.1 1⟩

theorem keptA_cells {V w : World} {x n : Nat} {u v : Value} (K : KeptA V x u v w) (hn : V.heap.size ≤ n) (sx : x < V.heap.size) (v0 v1 : Value) :
    ((w.setCell ⟨n, 0, none⟩ v0).setCell ⟨n, 1, none⟩ v1).cell? ⟨x, 0, none⟩ = some u ∧ ((w.setCell ⟨n, 0, none⟩ v0).setCell ⟨n, 1, none⟩ v1).cell? ⟨x, 1, none⟩ = some v :=
  ⟨farA _ _ (by omega) K.2.1, farA _ _ (by omega) K.2.2⟩

/-- what the region leaves: a store of its own in a block of its own -/
def CutA (V wx : World) (nb : Nat) (A : Option Addr) (c : Nat) (L : List GObj) (nx : Int) : Prop := Two wx nb (.slice A L.length c) (.int .i64 nx) ∧ ObjsAt wx wx.heap.size A L ∧ Free wx A ∧ (∀ b, blk A = some b → V.heap.size ≤ b ∧ b < wx.heap.size) ∧ Below V.heap.size V wx ∧ V.heap.size ≤ nb ∧ nb < wx.heap.size

theorem cutA_new {V w : World} {x : Nat} {u v : Value} {A : Option Addr} {c : Nat} {L : List GObj} {nx : Int} (K : KeptA V x u v w) (hs : ObjsAt w w.heap.size A L) (hf : Free w A) (hb : ∀ b, blk A = some b → V.heap.size ≤ b ∧ b < w.heap.size) (t : TypeId) : CutA V (w.alloc (.cells #[.slice A L.length c, .int .i64 nx] t)) w.heap.size A c L nx :=
  ⟨Two.new w _ _ t, (Sl.below hs (bal (Below.refl _ _) _) (Nat.le_refl _)).more (by simp), hf.below (bal (Below.refl _ _) _) (fun b e => (hb b e).2), fun b e => ⟨(hb b e).1, by have := (hb b e).2; simp; omega⟩, bal K.1 _, K.1.size, by simp⟩

theorem cutA_set {V w : World} {x n : Nat} {u v : Value} {A : Option Addr} {c : Nat} {L : List GObj} {nx : Int} (K : KeptA V x u v w) (Z : ZedA V.heap.size w n) (hs : ObjsAt w w.heap.size A L) (hf : Free w A) (hb : ∀ b, blk A = some b → V.heap.size ≤ b ∧ b < w.heap.size) : CutA V ((w.setCell ⟨n, 0, none⟩ (.slice A L.length c)).setCell ⟨n, 1, none⟩ (.int .i64 nx)) n A c L nx :=
  ⟨(Z.1.set0 _).set1 _, fin_objsA hs Z.2.2.1 _ _, (hf.setCell _ _).setCell _ _, fun b e => by rw [size_setCell, size_setCell]; exact hb b e, (K.1.setCell (p := ⟨n, 0, none⟩) Z.2.2.2.2 _).setCell (p := ⟨n, 1, none⟩) Z.2.2.2.2 _, Z.2.2.2.2, by rw [size_setCell, size_setCell]; exact Z.2.2.2.1⟩

theorem cutA_low {V w w' : World} {A : Option Addr} (h : V.heap.size ≤ w.heap.size) (hb : ∀ b, blk A = some b → w.heap.size ≤ b ∧ b < w'.heap.size) : ∀ b, blk A = some b → V.heap.size ≤ b ∧ b < w'.heap.size := fun b e => ⟨Nat.le_trans h (hb b e).1, (hb b e).2⟩

set_option maxRecDepth 100000 in
set_option maxHeartbeats 4000000 in
theorem appendRecord_any (A : Option Addr) (c : Nat) (next : Int) (xs : List GObj) (seq : Int) (r : GRec) (B : Nat) (w : World) (h : ObjsAt w B A xs) (hB : B ≤ w.heap.size) (hf : ∀ o ∈ xs, o.fit) (hl : xs.length ≤ 1048576) (hr : r.fit) (hk : r.key.size ≤ 1048576) (hp : Paths w) (hz : 1 < w.heap.size) (ht : Pow w) :
    Calls Tryz.prog 22 #[.agg #[.slice A xs.length c, .int .i64 next], .int .i64 seq, .agg #[.int .i64 r.kind, .int .i64 r.tok, .int .i64 r.tier, .int .i64 r.beg, .int .i64 r.fin, .string r.key]] w (StAns2 (AppR xs next seq r) w) := by
  have H := Lib.hid h; have Hf := Lib.hid hf; have Hr := Lib.hid hr
  have HP : Hid (∀ w', Below w.heap.size w w' → Paths w' ∧ 1 < w'.heap.size ∧ Pow w') := Lib.hid (fun w' h => ⟨hp.below h hz, Nat.lt_of_lt_of_le hz h.size, ht.below h (Nat.le_refl _)⟩)
  clear h hf hr hp ht
  go_enter Tryz.func22, Tryz.ntmps22
  go_wp2_with fail
  obtain ⟨W, hW⟩ : ∃ W, W = ((w.alloc (.cells #[.slice A xs.length c, .int .i64 next] 51)).alloc (.cells #[.int .i64 r.kind, .int .i64 r.tok, .int .i64 r.tier, .int .i64 r.beg, .int .i64 r.fin, .string r.key] 38)).alloc (.cells #[.slice none 0 0, .int .i64 0] 51) := ⟨_, rfl⟩
  have t0 : Two W w.heap.size (.slice A xs.length c) (.int .i64 next) := by rw [hW]; exact ((Two.new w _ _ _).alloc (by simp) _).alloc (by simp; omega) _
  have z0 : Two W (w.heap.size + 2) (.slice none 0 0) (.int .i64 0) ∧ ∀ i, W.frozen? ⟨w.heap.size + 2, i, none⟩ = false := by
    rw [hW]
    have e : ((w.alloc (.cells #[.slice A xs.length c, .int .i64 next] 51)).alloc (.cells #[.int .i64 r.kind, .int .i64 r.tok, .int .i64 r.tier, .int .i64 r.beg, .int .i64 r.fin, .string r.key] 38)).heap.size = w.heap.size + 2 := by simp
    have h1 := Two.new ((w.alloc (.cells #[.slice A xs.length c, .int .i64 next] 51)).alloc (.cells #[.int .i64 r.kind, .int .i64 r.tok, .int .i64 r.tier, .int .i64 r.beg, .int .i64 r.fin, .string r.key] 38)) (.slice none 0 0) (.int .i64 0) 51
    have h3 := fun i => free_alloc ((w.alloc (.cells #[.slice A xs.length c, .int .i64 next] 51)).alloc (.cells #[.int .i64 r.kind, .int .i64 r.tok, .int .i64 r.tier, .int .i64 r.beg, .int .i64 r.fin, .string r.key] 38)) #[.slice none 0 0, .int .i64 0] 51 0 _ rfl i
    rw [e] at h1 h3
    exact ⟨h1, h3⟩
  have b0 : Below w.heap.size w W := by rw [hW]; exact bal (bal (bal (Below.refl _ _) _) _) _
  have sR : w.heap.size + 2 < W.heap.size := by rw [hW]; simp
  rw [← hW]
  clear hW
  have hpW := HP.out W b0
  generalize hx0 : w.heap.size = x at *
  have Hx0 := Lib.hid hx0; clear hx0
  have ZT := Lib.hid z0.1; have ZF := Lib.hid z0.2; have T0 := Lib.hid t0
  clear z0 t0
  refine (recordText_any r Hr.out W (by omega) hpW.1 hpW.2.1 hpW.2.2).mono ?_
  rintro e w1 ⟨s, cd, rfl, hrt, hb1⟩
  clear hpW
  rcases hrt with ⟨hrp, rfl, rfl⟩ | ⟨hrp, rfl, rfl⟩
  case inr =>
    have HR := Lib.hid (show AppR xs next seq r [] 0 1 from .inl ⟨fun h => hrp h.2, rfl, rfl, rfl⟩)
    clear hrp
    obtain ⟨v0, v1⟩ := (show Two w1 (x + 2) (.slice none 0 0) (.int .i64 0) from ZT.out.below hb1 sR)
    have hT : Two w1 (x + 2) (.slice none 0 0) (.int .i64 0) := ⟨v0, v1⟩
    have f0 : w1.frozen? ⟨x + 2, 0, none⟩ = false := (hb1.frozen (p := ⟨x + 2, 0, none⟩) sR).trans (ZF.out 0)
    have f1 : w1.frozen? ⟨x + 2, 1, none⟩ = false := (hb1.frozen (p := ⟨x + 2, 1, none⟩) sR).trans (ZF.out 1)
    have bW : Below x w w1 := b0.trans (hb1.mono (by omega))
    go_wp2_with fail
    obtain ⟨⟨z0, z1⟩, r1, r2, r3, r4⟩ := fin_store (w := w) (A := none) (L := []) hT Sl.nil Free.none_ (fun b e => by cases e) (by rw [Hx0.out]; exact bW) (by rw [Hx0.out]; omega) (.slice none 0 0) (.int .i64 0)
    clear v0 v1 f0 f1 hT
    generalize (w1.setCell ⟨x + 2, 0, none⟩ (.slice none 0 0)).setCell ⟨x + 2, 1, none⟩ (.int .i64 0) = wF at *
    exact bodyPost_ret (v := .tuple #[.agg #[.slice none 0 0, .int .i64 0], .int .i64 1]) (by simp [results, Tryz.results22, go_sem, z0, z1]) rfl ⟨[], 0, 1, none, 0, HR.out, rfl, r1, r2, r3, Nat.le_refl _, r4⟩
  have HPR := Lib.hid hrp; clear hrp
  obtain ⟨t0, t1⟩ := T0.out.below hb1 (by omega)
  go_wp2_with fail
  refine (right_any A c next xs B _ (Sl.below H.out (b0.trans (hb1.mono (by omega))) hB) (by have := hb1.size; omega) Hf.out hl).mono ?_
  rintro e w2 ⟨bs, hbs, rfl, hb2'⟩
  have hb2 : Below W.heap.size W w2 := hb1.trans (hb2'.mono hb1.size)
  clear hb1 hb2' t0 t1
  cases bs
  · have HR := Lib.hid (show AppR xs next seq r [] 0 1 from .inl ⟨fun h => (by have := hbs.2 h.1; cases this), rfl, rfl, rfl⟩)
    clear hbs
    obtain ⟨v0, v1⟩ := (show Two w2 (x + 2) (.slice none 0 0) (.int .i64 0) from ZT.out.below hb2 sR)
    have hT : Two w2 (x + 2) (.slice none 0 0) (.int .i64 0) := ⟨v0, v1⟩
    have f0 : w2.frozen? ⟨x + 2, 0, none⟩ = false := (hb2.frozen (p := ⟨x + 2, 0, none⟩) sR).trans (ZF.out 0)
    have f1 : w2.frozen? ⟨x + 2, 1, none⟩ = false := (hb2.frozen (p := ⟨x + 2, 1, none⟩) sR).trans (ZF.out 1)
    have bW : Below x w w2 := b0.trans (hb2.mono (by omega))
    go_wp2_with fail
    obtain ⟨⟨z0, z1⟩, r1, r2, r3, r4⟩ := fin_store (w := w) (A := none) (L := []) hT Sl.nil Free.none_ (fun b e => by cases e) (by rw [Hx0.out]; exact bW) (by rw [Hx0.out]; omega) (.slice none 0 0) (.int .i64 0)
    clear v0 v1 f0 f1 hT
    generalize (w2.setCell ⟨x + 2, 0, none⟩ (.slice none 0 0)).setCell ⟨x + 2, 1, none⟩ (.int .i64 0) = wF at *
    exact bodyPost_ret (v := .tuple #[.agg #[.slice none 0 0, .int .i64 0], .int .i64 1]) (by simp [results, Tryz.results22, go_sem, z0, z1]) rfl ⟨[], 0, 1, none, 0, HR.out, rfl, r1, r2, r3, Nat.le_refl _, r4⟩
  have HS := Lib.hid (hbs.1 rfl); clear hbs
  cases hq : inB seq 1 999999
  · have HR := Lib.hid (show AppR xs next seq r [] 0 4 from .inr (.inl ⟨HS.out, HPR.out, hq, rfl, rfl, rfl⟩))
    obtain ⟨v0, v1⟩ := (show Two w2 (x + 2) (.slice none 0 0) (.int .i64 0) from ZT.out.below hb2 sR)
    have hT : Two w2 (x + 2) (.slice none 0 0) (.int .i64 0) := ⟨v0, v1⟩
    have f0 : w2.frozen? ⟨x + 2, 0, none⟩ = false := (hb2.frozen (p := ⟨x + 2, 0, none⟩) sR).trans (ZF.out 0)
    have f1 : w2.frozen? ⟨x + 2, 1, none⟩ = false := (hb2.frozen (p := ⟨x + 2, 1, none⟩) sR).trans (ZF.out 1)
    have bW : Below x w w2 := b0.trans (hb2.mono (by omega))
    go_wp2_with (go_at_call 60; refine (within_any _ _ _ _).mono ?_; rintro e w' ⟨rfl, rfl⟩; rw [hq])
    obtain ⟨⟨z0, z1⟩, r1, r2, r3, r4⟩ := fin_store (w := w) (A := none) (L := []) hT Sl.nil Free.none_ (fun b e => by cases e) (by rw [Hx0.out]; exact bW) (by rw [Hx0.out]; omega) (.slice none 0 0) (.int .i64 0)
    clear v0 v1 f0 f1 hT
    generalize (w2.setCell ⟨x + 2, 0, none⟩ (.slice none 0 0)).setCell ⟨x + 2, 1, none⟩ (.int .i64 0) = wF at *
    exact bodyPost_ret (v := .tuple #[.agg #[.slice none 0 0, .int .i64 0], .int .i64 4]) (by simp [results, Tryz.results22, go_sem, z0, z1]) rfl ⟨[], 0, 4, none, 0, HR.out, rfl, r1, r2, r3, Nat.le_refl _, r4⟩
  have HQ := Lib.hid hq; clear hq
  go_upto_region 6 with (go_at_call 60; refine (within_any _ _ _ _).mono ?_; rintro e w' ⟨rfl, rfl⟩; rw [HQ.out])
  have hz := nums5_size (fit_nums5 ⟨Hr.out.1, Hr.out.2.1, Hr.out.2.2.1, Hr.out.2.2.2.1, Hr.out.2.2.2.2.1⟩)
  have h17 := HPR.out.keyLe
  have hsz : (recT r).size ≤ 65536 := by
    unfold recT
    rw [ByteArray.size_append, ByteArray.size_append]
    have e : spB.size = 1 := rfl
    omega
  have hks : (manK seq).size ≤ 65536 := by rw [manK_size]; decide
  have HPA := Lib.hid (fun (W' : World) (hO : ObjsAt W' B A xs) (hBW : B ≤ W'.heap.size) => putAbsent_any A c next xs (manK seq) (recT r) B W' hO hBW Hf.out hl (by unfold maxLen; omega) (by unfold maxLen; omega))
  have HAC := Lib.hid (fun (L : List GObj) (nx ver cd : Int) (h : AbsR xs next (manK seq) (recT r) L nx ver cd) => (show AppR xs next seq r L nx cd from .inr (.inr ⟨HS.out, HPR.out, HQ.out, AbsR.absC HS.out (manK_good seq) hks hsz h⟩)))
  have hseq := inB_iff.1 HQ.out
  have HKY := Lib.hid (fun (W' : World) (hW : Pow W') => recKey_any seq hseq W' hW)
  have HPW := Lib.hid (fun (W' : World) (h : Below w2.heap.size w2 W') => (HP.out W' ((b0.trans (hb2.mono (by omega))).trans (h.mono (by have := hb2.size; omega)))).2.2)
  clear hz h17 hsz hks hseq HP
  generalize recT r = RT at *
  generalize manK seq = MK at *
  generalize hV : w2 = V at *
  clear hV
  have bV : Below x w V := b0.trans (hb2.mono (by omega))
  have t0V : Two V x (.slice A xs.length c) (.int .i64 next) := T0.out.below hb2 (by omega)
  have ZV := Lib.hid (ZT.out.below hb2 sR)
  have FV := Lib.hid (show ∀ i, V.frozen? ⟨x + 2, i, none⟩ = false from fun i => (hb2.frozen (p := ⟨x + 2, i, none⟩) sR).trans (ZF.out i))
  have sx2 : x + 2 < V.heap.size := Nat.lt_of_lt_of_le sR hb2.size
  have sx : x < V.heap.size := by omega
  clear T0 ZT ZF hb2 b0 sR
  go_cut [10, 9] (fun p q wx => ∃ (nb : Nat) (L : List GObj) (nx ver cd : Int) (A' : Option Addr) (c' : Nat), p = .pointer (some ⟨nb, 0, none⟩) ∧ q = .int .i64 cd ∧ Hid (AbsR xs next MK RT L nx ver cd) ∧ Hid (CutA V wx nb A' c' L nx) ∧ L.length ≤ c')
  case first =>
    have K0 := Lib.hid (show KeptA V x (.slice A xs.length c) (.int .i64 next) V from ⟨Below.refl _ _, t0V⟩)
    have K := Lib.hid (show KeptA V x (.slice A xs.length c) (.int .i64 next) V.drew from ⟨(Below.refl _ _).drew, t0V⟩)
    obtain ⟨p0, p1⟩ := t0V
    go_region_held3 (fun w' => w'.cell? ⟨x, 0, none⟩ = some (.slice A xs.length c) ∧ w'.cell? ⟨x, 1, none⟩ = some (.int .i64 next))
      (first | exact ⟨p0, p1⟩ | (with_reducible exact keptA_cells K.out (ZedA.base Z.out) sx _ _) | (go_keep; done) | (simp only [*]; done))
      (first
        | (go_at_call 52; refine (HKY.out _ (by first | (with_reducible exact HPW.out _ (KeptA.low K.out)) | (with_reducible exact HPW.out _ (KeptA.low (KeptA.alloc K.out sx _))) | (with_reducible exact HPW.out _ (KeptA.low (keptA_first K0.out sx _))))).mono ?_; rintro e w7 ⟨rfl, hb7⟩; (first | (with_reducible (replace K := Lib.hid (KeptA.step K.out sx hb7)); (try (with_reducible (replace Z := Lib.hid (ZedA.step Z.out hb7))))) | (with_reducible (have Z := Lib.hid (ZedA.step (zedA_new (B := V.heap.size) (KeptA.size K.out) _) hb7)); with_reducible (replace K := Lib.hid (KeptA.step (KeptA.alloc K.out sx _) sx hb7))) | (with_reducible (have Z := Lib.hid (ZedA.step (zedA_first _ _) hb7)); with_reducible (replace K := Lib.hid (KeptA.step (keptA_first K0.out sx _) sx hb7)))); (try (obtain ⟨⟨z0, z1⟩, y0, y1⟩ := Z.out.cells; have ne1 := Nat.ne_of_lt (Nat.lt_of_lt_of_le sx (ZedA.base Z.out)))); clear hb7; obtain ⟨p0, p1⟩ := K.out.2)
        | (go_at_call 61; refine (HPA.out _ (by first | (with_reducible exact (KeptA.objs K.out H.out bV (Nat.le_of_lt sx) hB).1) | (with_reducible exact (KeptA.objs (KeptA.alloc K.out sx _) H.out bV (Nat.le_of_lt sx) hB).1) | (with_reducible exact (KeptA.objs (keptA_first K0.out sx _) H.out bV (Nat.le_of_lt sx) hB).1)) (by first | (with_reducible exact (KeptA.objs K.out H.out bV (Nat.le_of_lt sx) hB).2) | (with_reducible exact (KeptA.objs (KeptA.alloc K.out sx _) H.out bV (Nat.le_of_lt sx) hB).2) | (with_reducible exact (KeptA.objs (keptA_first K0.out sx _) H.out bV (Nat.le_of_lt sx) hB).2))).mono ?_; rintro e w7 ⟨L, nx, ver, cd, A', c', hR, rfl, hsl, hfr, hbl, hcc, hb7⟩; have HR := Lib.hid hR; have HSL := Lib.hid hsl; have HFR := Lib.hid hfr; have HBL := Lib.hid (cutA_low (V := V) (by first | (with_reducible exact KeptA.size K.out) | (with_reducible exact KeptA.size (KeptA.alloc K.out sx _)) | (with_reducible exact KeptA.size (keptA_first K0.out sx _))) hbl); have HCC := Lib.hid hcc; clear hR hsl hfr hbl hcc; (first | (with_reducible (replace K := Lib.hid (KeptA.step K.out sx hb7)); (try (with_reducible (replace Z := Lib.hid (ZedA.step Z.out hb7))))) | (with_reducible (have Z := Lib.hid (ZedA.step (zedA_new (B := V.heap.size) (KeptA.size K.out) _) hb7)); with_reducible (replace K := Lib.hid (KeptA.step (KeptA.alloc K.out sx _) sx hb7))) | (with_reducible (have Z := Lib.hid (ZedA.step (zedA_first _ _) hb7)); with_reducible (replace K := Lib.hid (KeptA.step (keptA_first K0.out sx _) sx hb7)))); (try (obtain ⟨⟨z0, z1⟩, y0, y1⟩ := Z.out.cells; have ne1 := Nat.ne_of_lt (Nat.lt_of_lt_of_le sx (ZedA.base Z.out)))); clear hb7; obtain ⟨p0, p1⟩ := K.out.2))
    all_goals (go_wp2_with fail; go_meet)
    all_goals first | (with_reducible exact ⟨_, L, nx, ver, cd, A', c', rfl, rfl, HR, Lib.hid (cutA_new K.out HSL.out HFR.out HBL.out _), HCC.out⟩) | (with_reducible exact ⟨_, L, nx, ver, cd, A', c', rfl, rfl, HR, Lib.hid (cutA_set K.out Z.out HSL.out HFR.out HBL.out), HCC.out⟩)
  case rest =>
    obtain ⟨nb, L, nx, ver, cd, A', c', rfl, rfl, HR, HCut, hcc⟩ := hcut
    have HR2 := Lib.hid (HAC.out L nx ver cd HR.out)
    obtain ⟨⟨r0, r1⟩, hO, hF, hbl, hBx, hnb, hnb2⟩ := HCut.out
    have hT : Two wc (x + 2) (.slice none 0 0) (.int .i64 0) := ZV.out.below hBx sx2
    obtain ⟨v0, v1⟩ := hT
    have hT : Two wc (x + 2) (.slice none 0 0) (.int .i64 0) := ⟨v0, v1⟩
    have f0 : wc.frozen? ⟨x + 2, 0, none⟩ = false := (hBx.frozen (p := ⟨x + 2, 0, none⟩) sx2).trans (FV.out 0)
    have f1 : wc.frozen? ⟨x + 2, 1, none⟩ = false := (hBx.frozen (p := ⟨x + 2, 1, none⟩) sx2).trans (FV.out 1)
    have bW : Below x w wc := bV.trans (hBx.mono (by omega))
    have HO := Lib.hid hO; have HF := Lib.hid hF
    have HBL := Lib.hid (show ∀ b, blk A' = some b → x + 2 < b ∧ b < wc.heap.size from fun b e => ⟨by have := (hbl b e).1; omega, (hbl b e).2⟩)
    clear hO hF hbl HCut hBx HR
    go_wp2
    obtain ⟨⟨z0, z1⟩, q1, q2, q3, q4⟩ := fin_store (w := w) hT HO.out HF.out HBL.out (by rw [Hx0.out]; exact bW) (by rw [Hx0.out]; omega) (.slice A' L.length c') (.int .i64 nx)
    clear v0 v1 f0 f1 hT r0 r1
    generalize (wc.setCell ⟨x + 2, 0, none⟩ (.slice A' L.length c')).setCell ⟨x + 2, 1, none⟩ (.int .i64 nx) = wF at *
    exact bodyPost_ret (v := .tuple #[.agg #[.slice A' L.length c', .int .i64 nx], .int .i64 cd]) (by simp [results, Tryz.results22, go_sem, z0, z1]) rfl ⟨L, nx, cd, A', c', HR2.out, rfl, q1, q2, q3, hcc, q4⟩

end Go.Proofs.YthmpmagajbmpaaaGreatDoor

/- Contract of the model's AppendRecord. Conditions: lengths. -/
namespace Go.Proofs.YthmpmagajbmpaaaGreatDoor
open Go.ChangeShapes Go.WideShapes Go.ChangeAt Go.RowKit Go.Deep Go.Joins
set_option linter.unusedVariables false
set_option linter.unusedSimpArgs false

theorem absC_len {xs : List GObj} {next nx code : Int} {key data : ByteArray} {L : List GObj} (hS : StoreP xs next) (hf : ∀ o ∈ xs, o.fit) (hk : key.size ≤ maxLen) (h : AbsC xs next key data L nx code) : L.length ≤ 301 := by
  have := hS.2.2.1
  rcases h with ⟨_, rfl, _⟩ | ⟨_, ver, hp, _⟩
  · omega
  · have := (PutP.facts hp (rise_of_store hS) (fun o ho => (hf o ho).1.1) hk).2.1; omega

set_option maxRecDepth 100000 in
set_option maxHeartbeats 4000000 in
theorem specAppendRecord_any (b off c : Nat) (next : Int) (xs : List GObj) (seq : Int) (r : GRec) (B : Nat) (w : World) (h : ObjsAt w B (some ⟨b, off, none⟩) xs) (hB : B ≤ w.heap.size) (hf : ∀ o ∈ xs, o.fit) (hl : xs.length ≤ 1048576) (hc : xs.length ≤ c) (hr : r.fit) (hk : r.key.size ≤ 1048576) :
    Calls Tryz.prog 21 #[.agg #[.slice (some ⟨b, off, none⟩) xs.length c, .int .i64 next], .int .i64 seq, .agg #[.int .i64 r.kind, .int .i64 r.tok, .int .i64 r.tier, .int .i64 r.beg, .int .i64 r.fin, .string r.key]] w (StAns2 (AppR xs next seq r) w) := by
  have H := Lib.hid h; have Hf := Lib.hid hf; have Hr := Lib.hid hr
  clear h hf hr
  go_enter Tryz.func21, Tryz.ntmps21
  go_wp2_with fail
  obtain ⟨W, hW⟩ : ∃ W, W = ((w.alloc (.cells #[.slice (some ⟨b, off, none⟩) xs.length c, .int .i64 next] 51)).alloc (.cells #[.int .i64 r.kind, .int .i64 r.tok, .int .i64 r.tier, .int .i64 r.beg, .int .i64 r.fin, .string r.key] 38)).alloc (.cells #[.slice none 0 0, .int .i64 0] 51) := ⟨_, rfl⟩
  have t0 : Two W w.heap.size (.slice (some ⟨b, off, none⟩) xs.length c) (.int .i64 next) := by rw [hW]; exact ((Two.new w _ _ _).alloc (by simp) _).alloc (by simp; omega) _
  have r0 : RecAt W (w.heap.size + 1) r := by
    rw [hW]
    have := (RecAt.new (w.alloc (.cells #[.slice (some ⟨b, off, none⟩) xs.length c, .int .i64 next] 51)) r 38).below (bal (Below.refl _ _) (.cells #[.slice none 0 0, .int .i64 0] 51)) (by simp)
    simpa using this
  have z0 : Two W (w.heap.size + 2) (.slice none 0 0) (.int .i64 0) ∧ ∀ i, W.frozen? ⟨w.heap.size + 2, i, none⟩ = false := by
    rw [hW]
    have e : ((w.alloc (.cells #[.slice (some ⟨b, off, none⟩) xs.length c, .int .i64 next] 51)).alloc (.cells #[.int .i64 r.kind, .int .i64 r.tok, .int .i64 r.tier, .int .i64 r.beg, .int .i64 r.fin, .string r.key] 38)).heap.size = w.heap.size + 2 := by simp
    have h1 := Two.new ((w.alloc (.cells #[.slice (some ⟨b, off, none⟩) xs.length c, .int .i64 next] 51)).alloc (.cells #[.int .i64 r.kind, .int .i64 r.tok, .int .i64 r.tier, .int .i64 r.beg, .int .i64 r.fin, .string r.key] 38)) (.slice none 0 0) (.int .i64 0) 51
    have h3 := fun i => free_alloc ((w.alloc (.cells #[.slice (some ⟨b, off, none⟩) xs.length c, .int .i64 next] 51)).alloc (.cells #[.int .i64 r.kind, .int .i64 r.tok, .int .i64 r.tier, .int .i64 r.beg, .int .i64 r.fin, .string r.key] 38)) #[.slice none 0 0, .int .i64 0] 51 0 _ rfl i
    rw [e] at h1 h3
    exact ⟨h1, h3⟩
  have b0 : Below w.heap.size w W := by rw [hW]; exact bal (bal (bal (Below.refl _ _) _) _) _
  have sR : w.heap.size + 2 < W.heap.size := by rw [hW]; simp
  rw [← hW]
  clear hW
  generalize hx0 : w.heap.size = x at *
  have Hx0 := Lib.hid hx0; clear hx0
  have ZT := Lib.hid z0.1; have ZF := Lib.hid z0.2; have T0 := Lib.hid t0; have R0 := Lib.hid r0
  clear z0 t0 r0
  refine (specStoreOK_any (some ⟨b, off, none⟩) c next xs B W (Sl.below H.out b0 hB) (by omega) Hf.out hl).mono ?_
  rintro e w1 ⟨bs, hbs, rfl, hb1⟩
  cases bs
  · have HR := Lib.hid (show AppR xs next seq r [] 0 1 from .inl ⟨fun h => (by have := hbs.2 h.1; cases this), rfl, rfl, rfl⟩)
    clear hbs
    obtain ⟨v0, v1⟩ := (show Two w1 (x + 2) (.slice none 0 0) (.int .i64 0) from ZT.out.below hb1 sR)
    have hT : Two w1 (x + 2) (.slice none 0 0) (.int .i64 0) := ⟨v0, v1⟩
    have f0 : w1.frozen? ⟨x + 2, 0, none⟩ = false := (hb1.frozen (p := ⟨x + 2, 0, none⟩) sR).trans (ZF.out 0)
    have f1 : w1.frozen? ⟨x + 2, 1, none⟩ = false := (hb1.frozen (p := ⟨x + 2, 1, none⟩) sR).trans (ZF.out 1)
    have bW : Below x w w1 := b0.trans (hb1.mono (by omega))
    go_wp2_with (go_at_call 56; refine (inL_any _ _ _ _).mono ?_; rintro e w' ⟨rfl, rfl⟩)
    obtain ⟨⟨z0, z1⟩, r1, r2, r3, r4⟩ := fin_store (w := w) (A := none) (L := []) hT Sl.nil Free.none_ (fun b e => by cases e) (by rw [Hx0.out]; exact bW) (by rw [Hx0.out]; omega) (.slice none 0 0) (.int .i64 0)
    clear v0 v1 f0 f1 hT
    generalize (w1.setCell ⟨x + 2, 0, none⟩ (.slice none 0 0)).setCell ⟨x + 2, 1, none⟩ (.int .i64 0) = wF at *
    exact bodyPost_ret (v := .tuple #[.agg #[.slice none 0 0, .int .i64 0], .int .i64 1]) (by simp [results, Tryz.results21, go_sem, z0, z1]) rfl ⟨[], 0, 1, none, 0, HR.out, rfl, r1, r2, r3, Nat.le_refl _, r4⟩
  have HS := Lib.hid (hbs.1 rfl); clear hbs
  obtain ⟨c0, c1, c2, c3, c4, c5⟩ := (R0.out.below hb1 (by omega)).cells
  go_wp2_with fail
  refine (specRecordOK_any r w1 hk).mono ?_
  rintro e w2 ⟨br, hbr, rfl, hb2'⟩
  have hb2 : Below W.heap.size W w2 := hb1.trans (hb2'.mono hb1.size)
  clear hb1 hb2' c0 c1 c2 c3 c4 c5
  cases br
  · have HR := Lib.hid (show AppR xs next seq r [] 0 1 from .inl ⟨fun h => (by have := hbr.2 h.2; cases this), rfl, rfl, rfl⟩)
    clear hbr
    obtain ⟨v0, v1⟩ := (show Two w2 (x + 2) (.slice none 0 0) (.int .i64 0) from ZT.out.below hb2 sR)
    have hT : Two w2 (x + 2) (.slice none 0 0) (.int .i64 0) := ⟨v0, v1⟩
    have f0 : w2.frozen? ⟨x + 2, 0, none⟩ = false := (hb2.frozen (p := ⟨x + 2, 0, none⟩) sR).trans (ZF.out 0)
    have f1 : w2.frozen? ⟨x + 2, 1, none⟩ = false := (hb2.frozen (p := ⟨x + 2, 1, none⟩) sR).trans (ZF.out 1)
    have bW : Below x w w2 := b0.trans (hb2.mono (by omega))
    go_wp2_with (go_at_call 56; refine (inL_any _ _ _ _).mono ?_; rintro e w' ⟨rfl, rfl⟩)
    obtain ⟨⟨z0, z1⟩, r1, r2, r3, r4⟩ := fin_store (w := w) (A := none) (L := []) hT Sl.nil Free.none_ (fun b e => by cases e) (by rw [Hx0.out]; exact bW) (by rw [Hx0.out]; omega) (.slice none 0 0) (.int .i64 0)
    clear v0 v1 f0 f1 hT
    generalize (w2.setCell ⟨x + 2, 0, none⟩ (.slice none 0 0)).setCell ⟨x + 2, 1, none⟩ (.int .i64 0) = wF at *
    exact bodyPost_ret (v := .tuple #[.agg #[.slice none 0 0, .int .i64 0], .int .i64 1]) (by simp [results, Tryz.results21, go_sem, z0, z1]) rfl ⟨[], 0, 1, none, 0, HR.out, rfl, r1, r2, r3, Nat.le_refl _, r4⟩
  have HP := Lib.hid (hbr.1 rfl); clear hbr
  cases hq : inB seq 1 999999
  · have HR := Lib.hid (show AppR xs next seq r [] 0 4 from .inr (.inl ⟨HS.out, HP.out, hq, rfl, rfl, rfl⟩))
    obtain ⟨v0, v1⟩ := (show Two w2 (x + 2) (.slice none 0 0) (.int .i64 0) from ZT.out.below hb2 sR)
    have hT : Two w2 (x + 2) (.slice none 0 0) (.int .i64 0) := ⟨v0, v1⟩
    have f0 : w2.frozen? ⟨x + 2, 0, none⟩ = false := (hb2.frozen (p := ⟨x + 2, 0, none⟩) sR).trans (ZF.out 0)
    have f1 : w2.frozen? ⟨x + 2, 1, none⟩ = false := (hb2.frozen (p := ⟨x + 2, 1, none⟩) sR).trans (ZF.out 1)
    have bW : Below x w w2 := b0.trans (hb2.mono (by omega))
    go_wp2_with (go_at_call 56; refine (inL_any _ _ _ _).mono ?_; rintro e w' ⟨rfl, rfl⟩)
    obtain ⟨⟨z0, z1⟩, r1, r2, r3, r4⟩ := fin_store (w := w) (A := none) (L := []) hT Sl.nil Free.none_ (fun b e => by cases e) (by rw [Hx0.out]; exact bW) (by rw [Hx0.out]; omega) (.slice none 0 0) (.int .i64 0)
    clear v0 v1 f0 f1 hT
    generalize (w2.setCell ⟨x + 2, 0, none⟩ (.slice none 0 0)).setCell ⟨x + 2, 1, none⟩ (.int .i64 0) = wF at *
    exact bodyPost_ret (v := .tuple #[.agg #[.slice none 0 0, .int .i64 0], .int .i64 4]) (by simp [results, Tryz.results21, go_sem, z0, z1]) rfl ⟨[], 0, 4, none, 0, HR.out, rfl, r1, r2, r3, Nat.le_refl _, r4⟩
  have HQ := Lib.hid hq
  obtain ⟨t0, t1⟩ := T0.out.below hb2 (by omega)
  obtain ⟨c0, c1, c2, c3, c4, c5⟩ := (R0.out.below hb2 (by omega)).cells
  go_wp2_with (go_at_call 56; refine (inL_any _ _ _ _).mono ?_; rintro e w' ⟨rfl, rfl⟩)
  refine (l06Append_any b off c next xs seq r B w2 (Sl.below H.out (b0.trans (hb2.mono (by omega))) hB) (by have := hb2.size; omega) HS.out hc (inB_iff.1 HQ.out) Hr.out hk).mono ?_
  rintro e w3 ⟨L, nx, code, A3, c3', hR, rfl, hO3, hb3⟩
  have hLl := absC_len HS.out Hf.out (by rw [manK_size]; decide) hR
  have HR := Lib.hid (show AppR xs next seq r L nx code from .inr (.inr ⟨HS.out, HP.out, HQ.out, hR⟩))
  have hb3w : Below W.heap.size W w3 := hb2.trans (hb3.mono hb2.size)
  have HO3 := Lib.hid hO3
  clear hR hO3 hb3 t0 t1 c0 c1 c2 c3 c4 c5 hq hb2
  go_wp2_with fail
  have y3 : Two (w3.alloc (.cells #[.slice A3 L.length c3', .int .i64 nx] 51)) w3.heap.size (.slice A3 L.length c3') (.int .i64 nx) := Two.new _ _ _ _
  have bb : Below w3.heap.size w3 (w3.alloc (.cells #[.slice A3 L.length c3', .int .i64 nx] 51)) := bal (Below.refl _ _) _
  have sb := bb.size
  have HO4 := Lib.hid (Sl.below HO3.out bb (Nat.le_refl _))
  have hb4 : Below W.heap.size W (w3.alloc (.cells #[.slice A3 L.length c3', .int .i64 nx] 51)) := hb3w.trans (bb.mono hb3w.size)
  generalize w3.alloc (.cells #[.slice A3 L.length c3', .int .i64 nx] 51) = W4 at *
  refine (own_any A3 c3' nx L w3.heap.size W4 HO4.out sb (by omega)).mono ?_
  rintro e wN ⟨v, rfl, A', c', rfl, hsl, hfr, hbl, hcc, hbN⟩
  have hb5 : Below W.heap.size W wN := hb4.trans (hbN.mono hb4.size)
  obtain ⟨v0, v1⟩ := (show Two wN (x + 2) (.slice none 0 0) (.int .i64 0) from ZT.out.below hb5 sR)
  have hT : Two wN (x + 2) (.slice none 0 0) (.int .i64 0) := ⟨v0, v1⟩
  have f0 : wN.frozen? ⟨x + 2, 0, none⟩ = false := (hb5.frozen (p := ⟨x + 2, 0, none⟩) sR).trans (ZF.out 0)
  have f1 : wN.frozen? ⟨x + 2, 1, none⟩ = false := (hb5.frozen (p := ⟨x + 2, 1, none⟩) sR).trans (ZF.out 1)
  have bW : Below x w wN := b0.trans (hb5.mono (by omega))
  have hlow : W.heap.size ≤ W4.heap.size := hb4.size
  have hbl' : ∀ b, blk A' = some b → x + 2 < b ∧ b < wN.heap.size := fun b e => ⟨by have := (hbl b e).1; omega, (hbl b e).2⟩
  clear y3 bb hb3w hbN hb4 HO3 HO4 hb5 sb
  go_wp2
  obtain ⟨⟨z0, z1⟩, r1, r2, r3, r4⟩ := fin_store (w := w) hT hsl hfr hbl' (by rw [Hx0.out]; exact bW) (by rw [Hx0.out]; omega) (.slice A' L.length c') (.int .i64 nx)
  clear v0 v1 f0 f1 hT
  generalize (wN.setCell ⟨x + 2, 0, none⟩ (.slice A' L.length c')).setCell ⟨x + 2, 1, none⟩ (.int .i64 nx) = wF at *
  exact bodyPost_ret (v := .tuple #[.agg #[.slice A' L.length c', .int .i64 nx], .int .i64 code]) (by simp [results, Tryz.results21, go_sem, z0, z1]) rfl ⟨L, nx, code, A', c', HR.out, rfl, r1, r2, r3, hcc, r4⟩

end Go.Proofs.YthmpmagajbmpaaaGreatDoor

/- The answers of AppendRecord are one; a record beside a store. No Go text is walked here. -/
namespace Go.Proofs.YthmpmagajbmpaaaGreatDoor
open Go.RowKit
set_option linter.unusedVariables false

theorem putP_one {L L' L2 : List GObj} {next nx nx2 ver ver2 code code2 : Int} {key data : ByteArray} (h : PutP L next key data ver code L' nx) (h' : PutP L next key data ver2 code2 L2 nx2) : L2 = L' ∧ nx2 = nx ∧ ver2 = ver ∧ code2 = code := by
  rcases h with ⟨h1, a, b, c, d⟩ | ⟨h1, h2, a, b, c, d⟩ | ⟨h1, h2, a, b, c, d⟩ <;> rcases h' with ⟨k1, a', b', c', d'⟩ | ⟨k1, k2, a', b', c', d'⟩ | ⟨k1, k2, a', b', c', d'⟩
  · exact ⟨by rw [c, c'], by rw [d, d'], by rw [a, a'], by rw [b, b']⟩
  · exact absurd h1 k1
  · exact absurd h1 k1
  · exact absurd k1 h1
  · exact ⟨by rw [c, c'], by rw [d, d'], by rw [a, a'], by rw [b, b']⟩
  · exact absurd h2 k2
  · exact absurd k1 h1
  · exact absurd k2 h2
  · exact ⟨by rw [c, c'], by rw [d, d'], by rw [a, a'], by rw [b, b']⟩

theorem AbsC.one {xs : List GObj} {next : Int} {key data : ByteArray} {L L' : List GObj} {nx nx' c c' : Int} (h : AbsC xs next key data L nx c) (h' : AbsC xs next key data L' nx' c') : L' = L ∧ nx' = nx ∧ c' = c := by
  rcases h with ⟨h1, rfl, rfl, rfl⟩ | ⟨h1, v, h2, _⟩ <;> rcases h' with ⟨k1, e1, e2, e3⟩ | ⟨k1, v', k2, _⟩
  · exact ⟨e1, e2, e3⟩
  · exact absurd k1 h1
  · exact absurd h1 k1
  · have := putP_one h2 k2; exact ⟨this.1, this.2.1, this.2.2.2⟩

theorem AppR.one {xs : List GObj} {next seq : Int} {r : GRec} {L L' : List GObj} {nx nx' c c' : Int} (h : AppR xs next seq r L nx c) (h' : AppR xs next seq r L' nx' c') : L' = L ∧ nx' = nx ∧ c' = c := by
  rcases h with ⟨h1, rfl, rfl, rfl⟩ | ⟨h1, h2, h3, rfl, rfl, rfl⟩ | ⟨h1, h2, h3, h4⟩ <;> rcases h' with ⟨k1, e1, e2, e3⟩ | ⟨k1, k2, k3, e1, e2, e3⟩ | ⟨k1, k2, k3, k4⟩
  · exact ⟨e1, e2, e3⟩
  · exact absurd ⟨k1, k2⟩ h1
  · exact absurd ⟨k1, k2⟩ h1
  · exact absurd ⟨h1, h2⟩ k1
  · exact ⟨e1, e2, e3⟩
  · rw [h3] at k3; cases k3
  · exact absurd ⟨h1, h2⟩ k1
  · rw [h3] at k3; cases k3
  · exact AbsC.one h4 k4

theorem AppR.len {xs : List GObj} {next seq : Int} {r : GRec} {L : List GObj} {nx c : Int} (h : AppR xs next seq r L nx c) : L.length ≤ 400 := by
  rcases h with ⟨_, rfl, _⟩ | ⟨_, _, _, rfl, _⟩ | ⟨h1, _, _, h4⟩
  · simp
  · simp
  · have := h1.2.2.1
    rcases h4 with ⟨_, rfl, _⟩ | ⟨_, v, h2, _⟩
    · omega
    · rcases h2 with ⟨_, _, _, rfl, _⟩ | ⟨_, _, _, _, rfl, _⟩ | ⟨_, _, _, _, rfl, _⟩
      · omega
      · omega
      · have := setL_len ⟨manK seq, next, recT r⟩ xs; omega

/-- a store's box and, behind it, a record's -/
def TwoR (w : World) (x : Nat) (u v : Value) (r : GRec) : Prop := Two w x u v ∧ RecAt w (x + 1) r

theorem TwoR.below {w w' : World} {x B : Nat} {u v : Value} {r : GRec} (h : TwoR w x u v r) (hb : Below B w w') (hB : x + 1 < B) : TwoR w' x u v r := ⟨h.1.below hb (by omega), h.2.below hb hB⟩

/-- the two boxes and a store's objects, kept -/
def KeptR (V : World) (x : Nat) (u v : Value) (r : GRec) (A2 : Option Addr) (ys : List GObj) (w : World) : Prop := Below V.heap.size V w ∧ TwoR w x u v r ∧ ObjsAt w w.heap.size A2 ys

theorem KeptR.size {V w : World} {x : Nat} {u v : Value} {r : GRec} {A2 : Option Addr} {ys : List GObj} (K : KeptR V x u v r A2 ys w) : V.heap.size ≤ w.heap.size := K.1.size

theorem KeptR.step {V w w7 : World} {x : Nat} {u v : Value} {r : GRec} {A2 : Option Addr} {ys : List GObj} (K : KeptR V x u v r A2 ys w) (sx : x + 1 < V.heap.size) (hb : Below w.heap.size w w7) : KeptR V x u v r A2 ys w7 :=
  ⟨K.1.trans (hb.mono K.1.size), K.2.1.below hb (by have := K.1.size; omega), Sl.more (Sl.below K.2.2 hb (Nat.le_refl _)) hb.size⟩

theorem KeptR.alloc {V w : World} {x : Nat} {u v : Value} {r : GRec} {A2 : Option Addr} {ys : List GObj} (K : KeptR V x u v r A2 ys w) (sx : x + 1 < V.heap.size) (o : Obj) : KeptR V x u v r A2 ys (w.alloc o) := K.step sx (bal (Below.refl _ _) o)

theorem keptR_first {V : World} {x : Nat} {u v : Value} {r : GRec} {A2 : Option Addr} {ys : List GObj} (K : KeptR V x u v r A2 ys V) (sx : x + 1 < V.heap.size) (o : Obj) : KeptR V x u v r A2 ys (V.alloc o).drew := by
  have := K.alloc sx o
  exact ⟨this.1.drew, this.2.1, this.2.2⟩

theorem KeptR.withO {V w : World} {x : Nat} {u v : Value} {r : GRec} {A2 A3 : Option Addr} {ys zs : List GObj} (K : KeptR V x u v r A2 ys w) (h : ObjsAt w w.heap.size A3 zs) : KeptR V x u v r A3 zs w := ⟨K.1, K.2.1, h⟩

theorem KeptR.held {V w : World} {x : Nat} {u v : Value} {r : GRec} {A2 : Option Addr} {ys : List GObj} (K : KeptR V x u v r A2 ys w) : ObjsAt w w.heap.size A2 ys := K.2.2

theorem KeptR.toA {V w : World} {x : Nat} {u v : Value} {r : GRec} {A2 : Option Addr} {ys : List GObj} (K : KeptR V x u v r A2 ys w) : KeptA V x u v w := ⟨K.1, K.2.1.1⟩

theorem KeptR.objs {V w a : World} {x B : Nat} {u v : Value} {r : GRec} {A2 A : Option Addr} {ys xs : List GObj} (K : KeptR V x u v r A2 ys w) (H : ObjsAt a B A xs) (hV : Below B a V) (hB : B ≤ V.heap.size) : ObjsAt w B A xs ∧ B ≤ w.heap.size :=
  ⟨Sl.below H (hV.trans (K.1.mono hB)) (Nat.le_refl _), Nat.le_trans hB K.1.size⟩

theorem KeptR.cells {V w : World} {x : Nat} {u v : Value} {r : GRec} {A2 : Option Addr} {ys : List GObj} (K : KeptR V x u v r A2 ys w) : w.cell? ⟨x, 0, none⟩ = some u ∧ w.cell? ⟨x, 1, none⟩ = some v ∧ w.cell? ⟨x + 1, 0, none⟩ = some (.int .i64 r.kind) ∧ w.cell? ⟨x + 1, 1, none⟩ = some (.int .i64 r.tok) ∧ w.cell? ⟨x + 1, 2, none⟩ = some (.int .i64 r.tier) ∧ w.cell? ⟨x + 1, 3, none⟩ = some (.int .i64 r.beg) ∧ w.cell? ⟨x + 1, 4, none⟩ = some (.int .i64 r.fin) ∧ w.cell? ⟨x + 1, 5, none⟩ = some (.string r.key) := ⟨K.2.1.1.1, K.2.1.1.2, K.2.1.2.cells⟩

theorem keptR_cells {V w : World} {x n : Nat} {u v : Value} {r : GRec} {A2 : Option Addr} {ys : List GObj} (K : KeptR V x u v r A2 ys w) (hn : V.heap.size ≤ n) (sx : x + 1 < V.heap.size) (v0 v1 : Value) :
    ((w.setCell ⟨n, 0, none⟩ v0).setCell ⟨n, 1, none⟩ v1).cell? ⟨x, 0, none⟩ = some u ∧ ((w.setCell ⟨n, 0, none⟩ v0).setCell ⟨n, 1, none⟩ v1).cell? ⟨x, 1, none⟩ = some v ∧ ((w.setCell ⟨n, 0, none⟩ v0).setCell ⟨n, 1, none⟩ v1).cell? ⟨x + 1, 0, none⟩ = some (.int .i64 r.kind) ∧ ((w.setCell ⟨n, 0, none⟩ v0).setCell ⟨n, 1, none⟩ v1).cell? ⟨x + 1, 1, none⟩ = some (.int .i64 r.tok) ∧ ((w.setCell ⟨n, 0, none⟩ v0).setCell ⟨n, 1, none⟩ v1).cell? ⟨x + 1, 2, none⟩ = some (.int .i64 r.tier) ∧ ((w.setCell ⟨n, 0, none⟩ v0).setCell ⟨n, 1, none⟩ v1).cell? ⟨x + 1, 3, none⟩ = some (.int .i64 r.beg) ∧ ((w.setCell ⟨n, 0, none⟩ v0).setCell ⟨n, 1, none⟩ v1).cell? ⟨x + 1, 4, none⟩ = some (.int .i64 r.fin) ∧ ((w.setCell ⟨n, 0, none⟩ v0).setCell ⟨n, 1, none⟩ v1).cell? ⟨x + 1, 5, none⟩ = some (.string r.key) := by
  have k := K.cells
  refine ⟨farA _ _ (by omega) k.1, farA _ _ (by omega) k.2.1, farA _ _ (by omega) k.2.2.1, farA _ _ (by omega) k.2.2.2.1, farA _ _ (by omega) k.2.2.2.2.1, farA _ _ (by omega) k.2.2.2.2.2.1, farA _ _ (by omega) k.2.2.2.2.2.2.1, farA _ _ (by omega) k.2.2.2.2.2.2.2⟩

/-- beside these, one store's box more -/
def KeptQ (V : World) (x y : Nat) (u v p q : Value) (r : GRec) (A2 : Option Addr) (ys : List GObj) (w : World) : Prop := KeptR V x u v r A2 ys w ∧ Two w y p q

theorem KeptQ.toR {V w : World} {x y : Nat} {u v p q : Value} {r : GRec} {A2 : Option Addr} {ys : List GObj} (K : KeptQ V x y u v p q r A2 ys w) : KeptR V x u v r A2 ys w := K.1

theorem KeptQ.low {V w : World} {x y : Nat} {u v p q : Value} {r : GRec} {A2 : Option Addr} {ys : List GObj} (K : KeptQ V x y u v p q r A2 ys w) : Below V.heap.size V w := K.1.1

theorem KeptQ.size {V w : World} {x y : Nat} {u v p q : Value} {r : GRec} {A2 : Option Addr} {ys : List GObj} (K : KeptQ V x y u v p q r A2 ys w) : V.heap.size ≤ w.heap.size := K.1.size

theorem KeptQ.step {V w w7 : World} {x y : Nat} {u v p q : Value} {r : GRec} {A2 : Option Addr} {ys : List GObj} (K : KeptQ V x y u v p q r A2 ys w) (sx : x + 1 < V.heap.size) (sy : y < V.heap.size) (hb : Below w.heap.size w w7) : KeptQ V x y u v p q r A2 ys w7 :=
  ⟨K.1.step sx hb, K.2.below hb (by have := K.1.size; omega)⟩

theorem KeptQ.alloc {V w : World} {x y : Nat} {u v p q : Value} {r : GRec} {A2 : Option Addr} {ys : List GObj} (K : KeptQ V x y u v p q r A2 ys w) (sx : x + 1 < V.heap.size) (sy : y < V.heap.size) (o : Obj) : KeptQ V x y u v p q r A2 ys (w.alloc o) := K.step sx sy (bal (Below.refl _ _) o)

theorem keptQ_first {V : World} {x y : Nat} {u v p q : Value} {r : GRec} {A2 : Option Addr} {ys : List GObj} (K : KeptQ V x y u v p q r A2 ys V) (sx : x + 1 < V.heap.size) (sy : y < V.heap.size) (o : Obj) : KeptQ V x y u v p q r A2 ys (V.alloc o).drew := ⟨keptR_first K.1 sx o, (K.alloc sx sy o).2⟩

theorem KeptQ.cells {V w : World} {x y : Nat} {u v p q : Value} {r : GRec} {A2 : Option Addr} {ys : List GObj} (K : KeptQ V x y u v p q r A2 ys w) : w.cell? ⟨y, 0, none⟩ = some p ∧ w.cell? ⟨y, 1, none⟩ = some q ∧ w.cell? ⟨x + 1, 0, none⟩ = some (.int .i64 r.kind) ∧ w.cell? ⟨x + 1, 1, none⟩ = some (.int .i64 r.tok) ∧ w.cell? ⟨x + 1, 2, none⟩ = some (.int .i64 r.tier) ∧ w.cell? ⟨x + 1, 3, none⟩ = some (.int .i64 r.beg) ∧ w.cell? ⟨x + 1, 4, none⟩ = some (.int .i64 r.fin) ∧ w.cell? ⟨x + 1, 5, none⟩ = some (.string r.key) := ⟨K.2.1, K.2.2, K.1.cells.2.2⟩

theorem keptQ_cells {V w : World} {x y n : Nat} {u v p q : Value} {r : GRec} {A2 : Option Addr} {ys : List GObj} (K : KeptQ V x y u v p q r A2 ys w) (hn : V.heap.size ≤ n) (sx : x + 1 < V.heap.size) (sy : y < V.heap.size) (v0 v1 : Value) :
    ((w.setCell ⟨n, 0, none⟩ v0).setCell ⟨n, 1, none⟩ v1).cell? ⟨y, 0, none⟩ = some p ∧ ((w.setCell ⟨n, 0, none⟩ v0).setCell ⟨n, 1, none⟩ v1).cell? ⟨y, 1, none⟩ = some q ∧ ((w.setCell ⟨n, 0, none⟩ v0).setCell ⟨n, 1, none⟩ v1).cell? ⟨x + 1, 0, none⟩ = some (.int .i64 r.kind) ∧ ((w.setCell ⟨n, 0, none⟩ v0).setCell ⟨n, 1, none⟩ v1).cell? ⟨x + 1, 1, none⟩ = some (.int .i64 r.tok) ∧ ((w.setCell ⟨n, 0, none⟩ v0).setCell ⟨n, 1, none⟩ v1).cell? ⟨x + 1, 2, none⟩ = some (.int .i64 r.tier) ∧ ((w.setCell ⟨n, 0, none⟩ v0).setCell ⟨n, 1, none⟩ v1).cell? ⟨x + 1, 3, none⟩ = some (.int .i64 r.beg) ∧ ((w.setCell ⟨n, 0, none⟩ v0).setCell ⟨n, 1, none⟩ v1).cell? ⟨x + 1, 4, none⟩ = some (.int .i64 r.fin) ∧ ((w.setCell ⟨n, 0, none⟩ v0).setCell ⟨n, 1, none⟩ v1).cell? ⟨x + 1, 5, none⟩ = some (.string r.key) :=
  ⟨farA _ _ (by omega) K.2.1, farA _ _ (by omega) K.2.2, (keptR_cells K.1 hn sx v0 v1).2.2⟩

/-- the result's block is not the box that stood before the call -/
theorem zlow {B : Nat} {w w' : World} {n : Nat} {A : Option Addr} (Z : ZedA B w n) (hb : ∀ b, blk A = some b → w.heap.size ≤ b ∧ b < w'.heap.size) : ∀ b, blk A = some b → b ≠ n := fun b e h => by
  have := (hb b e).1; have := Z.2.2.2.1; omega

theorem alow {w w' : World} {o : Obj} {A : Option Addr} (hb : ∀ b, blk A = some b → (w.alloc o).heap.size ≤ b ∧ b < w'.heap.size) : ∀ b, blk A = some b → b ≠ w.heap.size := fun b e h => by
  have h1 := (hb b e).1
  simp at h1
  omega

theorem alowD {w w' : World} {o : Obj} {A : Option Addr} (hb : ∀ b, blk A = some b → (w.alloc o).drew.heap.size ≤ b ∧ b < w'.heap.size) : ∀ b, blk A = some b → b ≠ w.heap.size := fun b e h => by
  have h1 : (w.alloc o).heap.size ≤ b := (hb b e).1
  simp at h1
  omega

end Go.Proofs.YthmpmagajbmpaaaGreatDoor
