/-
  Several texts as one: contracts that the law leans on; each part says what it proves and its conditions.
-/
import Derived.Test.YtjmfffmjfbpgjaaGreatDoorDv
import Derived.Test.YtjmfffmjfbpgjaaGreatDoorTxt
import Derived.Outline
import Derived.Test.YtjmfffmjfbpgjaaGreatDoorSpecRd
import Derived.Test.YtjmfffmjfbpgjaaGreatDoorScan

/- Contracts of what reads a number: the program's readNumber (over the library's Atoi, Itoa, TrimPrefix) and the model's l00Number, l02Number: just a number's text is read, at least those of 18 digits. Conditions: the library's table of powers of ten is as its text lays it, its two errors' variables hold errors; a text's length. -/
namespace Go.Proofs.YtjmfffmjfbpgjaaGreatDoor
open Go.ChangeShapes Go.WideShapes Go.ChangeAt Go.RowKit
set_option linter.unusedVariables false
set_option linter.unusedSimpArgs false

/-- the library's errors stand in their variables -/
def Errs (w : World) : Prop := (∃ ev, w.cell? ⟨4, 0, none⟩ = some ev ∧ (ev = .nilIface ∨ ∃ te pe, ev = .iface te pe)) ∧ (∃ ev, w.cell? ⟨5, 0, none⟩ = some ev ∧ (ev = .nilIface ∨ ∃ te pe, ev = .iface te pe))

theorem Errs.below {w w' : World} {B : Nat} (h : Errs w) (hb : Below B w w') (hB : w.heap.size ≤ B) : Errs w' := by
  obtain ⟨⟨e1, h1, k1⟩, ⟨e2, h2, k2⟩⟩ := h
  have l1 := World.block_lt_of_cell? w _ h1
  have l2 := World.block_lt_of_cell? w _ h2
  exact ⟨⟨e1, (hb.cell (Nat.lt_of_lt_of_le l1 hB)).trans h1, k1⟩, ⟨e2, (hb.cell (Nat.lt_of_lt_of_le l2 hB)).trans h2, k2⟩⟩

theorem bytes_below (w : World) (e : TypeId) (s : ByteArray) : Below w.heap.size w (Lib.bytesWorld w e s) :=
  ⟨rfl, rfl, rfl, by simp [Lib.bytesWorld, World.freeze], fun i hi => Lib.bytesWorld_at_old w e s i hi⟩

/-- how Atoi ends -/
def AtoiEnd (t : ByteArray) (w : World) (e : Ending) (w' : World) : Prop := Below w.heap.size w w' ∧ ((∃ v, Lib.atoiAll t.data.toList = .ok v ∧ e = .returned (.tuple #[.int .i64 v, .nilIface])) ∨ (∃ v N, (∀ u, Lib.atoiAll t.data.toList ≠ .ok u) ∧ e = .returned (.tuple #[.int .i64 v, .iface 286 (.pointer (some ⟨N, 0, none⟩))])))

theorem atoi_any (t : ByteArray) (w : World) (ht : t.size ≤ 1048576) (hE : Errs w) : Calls Tryz.prog 178 #[.string t] w (AtoiEnd t w) := by
  cases h : Lib.atoiAll t.data.toList with
  | ok v =>
    refine (sh_strconv_Atoi_ok t (by omega) v h w).mono ?_
    rintro e w' ⟨rfl, hw⟩
    refine ⟨?_, Or.inl ⟨v, h, rfl⟩⟩
    rcases hw with rfl | ⟨s, rfl⟩
    · exact Below.refl _ _
    · exact bytes_below _ _ _
  | «syntax» =>
    obtain ⟨ev, h1, h2⟩ := hE.1
    refine (sh_strconv_Atoi_syntax t (by omega) h ev w h1 h2).mono ?_
    rintro e w' ⟨N, rfl, _, _, hb⟩
    exact ⟨hb, Or.inr ⟨_, N, fun u hu => (by rw [h] at hu; cases hu), rfl⟩⟩
  | range =>
    obtain ⟨ev, h1, h2⟩ := hE.2
    refine (sh_strconv_Atoi_range t (by omega) h ev w h1 h2).mono ?_
    rintro e w' ⟨N, rfl, _, _, hb⟩
    exact ⟨hb, Or.inr ⟨_, N, fun u hu => (by rw [h] at hu; cases hu), rfl⟩⟩

theorem small_fit {m : Int} (h : Small m) : -9223372036854775808 ≤ m ∧ m ≤ 9223372036854775807 := by unfold Small at h; omega

/-- what readNumber answers -/
def RdEnd (t : ByteArray) (w : World) (e : Ending) (w' : World) : Prop := ∃ n b, e = .returned (.tuple #[.int .i64 n, .bool b]) ∧ NumRd t n b ∧ (b = false → n = 0) ∧ Below w.heap.size w w'

set_option maxRecDepth 100000 in
theorem readNumber_any (t : ByteArray) (w : World) (ht : t.size ≤ 1048576) (hE : Errs w) (hP : Pow w) : Calls Tryz.prog 133 #[.string t] w (RdEnd t w) := by
  have HE := Lib.hid hE; clear hE
  have HP := Lib.hid hP; clear hP
  go_enter Tryz.func133, Tryz.ntmps133
  go_wp2_with fail
  refine (atoi_any t w ht HE.out).mono ?_
  rintro e w1 ⟨hb1, ⟨v, hv, rfl⟩ | ⟨v, N, hno, rfl⟩⟩
  · have hf := atoi_fit hv
    have HV := Lib.hid hv; clear hv
    go_wp2_with fail
    refine (itoa_any v w1 hf.1 hf.2 (HP.out.below hb1 (Nat.le_refl _))).mono ?_
    rintro e w2 ⟨rfl, hb2⟩
    have b2 := bnext hb1 hb2
    by_cases he : numT v = t
    · have dn : ((numT v).toList != t.toList) = false := by rw [he]; simp
      have de : ((numT v).toList == t.toList) = true := by rw [he]; simp
      have HT := Lib.hid (show t = numT v from he.symm)
      have Hf := Lib.hid hf
      have HS := Lib.hid (show ∀ m, Small m → t = numT m → (Lib.trimPrefix t.data.toList [45]).length ≤ 18 from fun m hm e => by rw [e]; exact trim_len hm)
      clear hb1 hb2 he hf HV
      obtain ⟨X, hX⟩ : ∃ X, X = numT v := ⟨_, rfl⟩
      rw [← hX] at dn de ⊢
      clear hX
      go_wp2_with fail
      refine (sh_strings_TrimPrefix t ⟨#[45]⟩ w2).mono ?_
      rintro e w3 ⟨rfl, rfl⟩
      obtain ⟨Z, hZ⟩ : ∃ Z : ByteArray, Z = ⟨(Lib.trimPrefix t.data.toList [45]).toArray⟩ := ⟨_, rfl⟩
      rw [show (⟨(Lib.trimPrefix t.data.toList (⟨#[45]⟩ : ByteArray).data.toList).toArray⟩ : ByteArray) = Z from hZ.symm]
      have hzs : Z.size = (Lib.trimPrefix t.data.toList [45]).length := by rw [hZ]; simp [ByteArray.size]
      have hzl : Z.size ≤ 1048576 := by
        rw [hzs]
        have e1 : t.data.toList.length = t.size := by rw [Array.length_toList]; rfl
        unfold Lib.trimPrefix
        split
        · rw [List.length_drop]; omega
        · omega
      clear hZ
      cases hl : decide (18 < (Z.size : Int))
      · clear HS hzs
        go_wp2
        exact bodyPost_ret (v := .tuple #[.int .i64 v, .bool true]) (by simp [results, Tryz.results133, go_sem]) rfl ⟨v, true, rfl, Or.inl ⟨rfl, HT.out, Hf.out.1, Hf.out.2⟩, fun h => (by cases h), b2⟩
      · have HN := Lib.hid (show ∀ m, Small m → t ≠ numT m from fun m hm e => by
          have := HS.out m hm e
          simp at hl
          omega)
        clear HS hzs
        go_wp2
        exact bodyPost_ret (v := .tuple #[.int .i64 0, .bool false]) (by simp [results, Tryz.results133, go_sem]) rfl ⟨0, false, rfl, Or.inr ⟨rfl, HN.out⟩, fun _ => rfl, b2⟩
    · have hne : (numT v).toList ≠ t.toList := fun h => he (by
        rw [ByteArray.toList_eq, ByteArray.toList_eq] at h
        exact ByteArray.ext (Array.toList_inj.1 h))
      have dn : ((numT v).toList != t.toList) = true := by simpa using hne
      have de : ((numT v).toList == t.toList) = false := by simpa using hne
      have HN := Lib.hid (show ∀ m, Small m → t ≠ numT m from fun m hm e => by
        have := HV.out
        rw [e, atoi_num (small_fit hm).1 (small_fit hm).2] at this
        injection this with this
        exact he (by rw [e, this]))
      clear hb1 hb2 he hf HV hne
      generalize numT v = X at *
      go_wp2
      exact bodyPost_ret (v := .tuple #[.int .i64 0, .bool false]) (by simp [results, Tryz.results133, go_sem]) rfl ⟨0, false, rfl, Or.inr ⟨rfl, HN.out⟩, fun _ => rfl, b2⟩
  · have HN := Lib.hid (show ∀ m, Small m → t ≠ numT m from fun m hm e => hno m (by rw [e]; exact atoi_num (small_fit hm).1 (small_fit hm).2))
    clear hno
    go_wp2
    exact bodyPost_ret (v := .tuple #[.int .i64 0, .bool false]) (by simp [results, Tryz.results133, go_sem]) rfl ⟨0, false, rfl, Or.inr ⟨rfl, HN.out⟩, fun _ => rfl, hb1⟩

end Go.Proofs.YtjmfffmjfbpgjaaGreatDoor

/- Contracts of the program's readNumbers (six places) and ReadAgg: just the text of a right aggregate is read. Conditions: the library's table of powers of ten is as its text lays it, its two errors' variables hold errors, its MaxLen an int; a text's length. -/
namespace Go.Proofs.YtjmfffmjfbpgjaaGreatDoor
open Go.ChangeShapes Go.WideShapes Go.ChangeAt Go.RowKit
set_option linter.unusedVariables false
set_option linter.unusedSimpArgs false

/-- the library's MaxLen holds an int -/
def MaxL (w : World) : Prop := ∃ m, w.cell? ⟨1, 0, none⟩ = some (.int .i64 m)

theorem MaxL.below {w w' : World} {B : Nat} (h : MaxL w) (hb : Below B w w') (hB : w.heap.size ≤ B) : MaxL w' := by
  obtain ⟨m, h⟩ := h
  exact ⟨m, (hb.cell (Nat.lt_of_lt_of_le (World.block_lt_of_cell? w _ h) hB)).trans h⟩

/-- an aggregate with its j-th number written anew -/
def GAgg.setN (a : GAgg) (j : Nat) (m : Int) : GAgg := match j with
  | 0 => ⟨m, a.sum, a.mn, a.mx, a.fst, a.lst⟩
  | 1 => ⟨a.cnt, m, a.mn, a.mx, a.fst, a.lst⟩
  | 2 => ⟨a.cnt, a.sum, m, a.mx, a.fst, a.lst⟩
  | 3 => ⟨a.cnt, a.sum, a.mn, m, a.fst, a.lst⟩
  | 4 => ⟨a.cnt, a.sum, a.mn, a.mx, m, a.lst⟩
  | _ => ⟨a.cnt, a.sum, a.mn, a.mx, a.fst, m⟩

theorem setN_nums (a : GAgg) (j : Nat) (m : Int) (h : j < 6) : (a.setN j m).nums.take (j + 1) = a.nums.take j ++ [m] := by
  match j, h with
  | 0, _ => rfl
  | 1, _ => rfl
  | 2, _ => rfl
  | 3, _ => rfl
  | 4, _ => rfl
  | 5, _ => rfl

theorem six_setN {w : World} {g : Nat} {a : GAgg} (h : Six w g a) (j : Nat) (m : Int) (hj : j < 6) : Six (w.setCell ⟨g, j, none⟩ (.int .i64 m)) g (a.setN j m) := by
  obtain ⟨h0, h1, h2, h3, h4, h5⟩ := h
  match j, hj with
  | 0, _ => exact ⟨cset_eq w g 0 _ h0, (cset_ne w g 0 1 _ (by decide)).trans h1, (cset_ne w g 0 2 _ (by decide)).trans h2, (cset_ne w g 0 3 _ (by decide)).trans h3, (cset_ne w g 0 4 _ (by decide)).trans h4, (cset_ne w g 0 5 _ (by decide)).trans h5⟩
  | 1, _ => exact ⟨(cset_ne w g 1 0 _ (by decide)).trans h0, cset_eq w g 1 _ h1, (cset_ne w g 1 2 _ (by decide)).trans h2, (cset_ne w g 1 3 _ (by decide)).trans h3, (cset_ne w g 1 4 _ (by decide)).trans h4, (cset_ne w g 1 5 _ (by decide)).trans h5⟩
  | 2, _ => exact ⟨(cset_ne w g 2 0 _ (by decide)).trans h0, (cset_ne w g 2 1 _ (by decide)).trans h1, cset_eq w g 2 _ h2, (cset_ne w g 2 3 _ (by decide)).trans h3, (cset_ne w g 2 4 _ (by decide)).trans h4, (cset_ne w g 2 5 _ (by decide)).trans h5⟩
  | 3, _ => exact ⟨(cset_ne w g 3 0 _ (by decide)).trans h0, (cset_ne w g 3 1 _ (by decide)).trans h1, (cset_ne w g 3 2 _ (by decide)).trans h2, cset_eq w g 3 _ h3, (cset_ne w g 3 4 _ (by decide)).trans h4, (cset_ne w g 3 5 _ (by decide)).trans h5⟩
  | 4, _ => exact ⟨(cset_ne w g 4 0 _ (by decide)).trans h0, (cset_ne w g 4 1 _ (by decide)).trans h1, (cset_ne w g 4 2 _ (by decide)).trans h2, (cset_ne w g 4 3 _ (by decide)).trans h3, cset_eq w g 4 _ h4, (cset_ne w g 4 5 _ (by decide)).trans h5⟩
  | 5, _ => exact ⟨(cset_ne w g 5 0 _ (by decide)).trans h0, (cset_ne w g 5 1 _ (by decide)).trans h1, (cset_ne w g 5 2 _ (by decide)).trans h2, (cset_ne w g 5 3 _ (by decide)).trans h3, (cset_ne w g 5 4 _ (by decide)).trans h4, cset_eq w g 5 _ h5⟩

theorem six_at {w : World} {g : Nat} {a : GAgg} (h : Six w g a) (j : Nat) (hj : j < 6) : ∃ v, w.cell? ⟨g, j, none⟩ = some v := by
  obtain ⟨h0, h1, h2, h3, h4, h5⟩ := h
  match j, hj with
  | 0, _ => exact ⟨_, h0⟩
  | 1, _ => exact ⟨_, h1⟩
  | 2, _ => exact ⟨_, h2⟩
  | 3, _ => exact ⟨_, h3⟩
  | 4, _ => exact ⟨_, h4⟩
  | 5, _ => exact ⟨_, h5⟩

/-- six places: pointers to the cells of block g, in block q -/
def Places (w : World) (q g : Nat) : Prop := ∀ i, i < 6 → w.cell? ⟨q, i, none⟩ = some (.pointer (some ⟨g, i, none⟩))

theorem piece_len {t : ByteArray} {c : UInt8} {xs : List ByteArray} (h : Pieces t c xs) : ∀ p ∈ xs, p.size ≤ t.size := by
  obtain ⟨ps, last, rfl, h⟩ := h
  have hs : t.size = t.data.toList.length := by rw [Array.length_toList]; rfl
  have key : ∀ (qs : List ByteArray), ∀ p ∈ qs, p.data.toList.length ≤ (flatC c qs).length := by
    intro qs
    induction qs with
    | nil => simp
    | cons q qs ih =>
      have e : (flatC c (q :: qs)).length = q.data.toList.length + 1 + (flatC c qs).length := by simp [flatC]; omega
      rw [e]
      intro p hp
      rcases List.mem_cons.1 hp with rfl | hp
      · omega
      · have := ih p hp; omega
  have e := congrArg List.length h
  rw [List.length_append, ← hs] at e
  intro p hp
  have hp' : p.size = p.data.toList.length := by rw [Array.length_toList]; rfl
  rcases List.mem_append.1 hp with hp | hp
  · have := key ps p hp; omega
  · simp at hp; subst hp; omega

theorem cells_part (w : World) (L : List ByteArray) (N : Nat) (T : TypeId) (j : Nat) (h : j < L.length) : (w.alloc (.cells (Lib.cellsOf L N) T)).cell? ⟨w.heap.size, j, none⟩ = some (.string L[j]) := by
  rw [World.cell?_alloc_new]
  unfold Lib.cellsOf
  rw [List.getElem?_toArray, List.getElem?_append_left (by simpa using h), List.getElem?_map, List.getElem?_eq_getElem h]
  rfl

/-- what readNumbers does -/
def Filled (t : ByteArray) (g : Nat) (w : World) (e : Ending) (w' : World) : Prop := ∃ b, e = .returned (.bool b) ∧ w.grownBy w' (some g) ∧ ∃ a, Six w' g a ∧ ((b = true ∧ NumsOf t 44 a.nums ∧ ∀ n ∈ a.nums, FitI n) ∨ (b = false ∧ ∀ ms, ms.length = 6 → (∀ m ∈ ms, Small m) → ¬ NumsOf t 44 ms))

theorem grown_far {w w' : World} {g : Nat} (h : w.grownBy w' (some g)) {p : Addr} (hp : p.block < w.heap.size) (hg : p.block ≠ g) : w'.cell? p = w.cell? p :=
  World.cell?_of_block (h.block p.block hp (fun e => hg (by injection e)))

theorem errs_grown {w w' : World} {g : Nat} (h : Errs w) (hg : w.grownBy w' (some g)) (n1 : 4 < g) (n2 : 5 < g) : Errs w' := by
  obtain ⟨⟨e1, h1, k1⟩, ⟨e2, h2, k2⟩⟩ := h
  have l1 := World.block_lt_of_cell? w _ h1
  have l2 := World.block_lt_of_cell? w _ h2
  exact ⟨⟨e1, (grown_far hg l1 (Nat.ne_of_lt n1)).trans h1, k1⟩, ⟨e2, (grown_far hg l2 (Nat.ne_of_lt n2)).trans h2, k2⟩⟩

set_option maxRecDepth 100000 in
theorem readNums_any (B g q : Nat) (t : ByteArray) (a0 : GAgg) (w : World) (hS : Six w g a0) (hF : Free w (some ⟨g, 0, none⟩)) (hq : Places w q g) (hqg : q ≠ g) (hql : q < w.heap.size) (hgl : g < w.heap.size) (ht : t.size ≤ 65536) (hE : Errs w) (hP : Pow w) (hM : MaxL w) (hBg : B ≤ g) (hEB : ∀ w', Below B w w' → Errs w' ∧ Pow w') :
    Calls Tryz.prog 73 #[.string t, .slice (some ⟨q, 0, none⟩) 6 6] w (Filled t g w) := by
  have HS := Lib.hid hS; clear hS
  have HF := Lib.hid hF; clear hF
  have HQ := Lib.hid hq; clear hq
  have HE := Lib.hid hE; clear hE
  have HP := Lib.hid hP; clear hP
  have HEB := Lib.hid hEB; clear hEB
  obtain ⟨m, hm⟩ := hM
  have hsp := sh_strings_SplitN t (sepB 44) 7 m w (by omega) hm (by decide) (by omega) (by omega)
  have HSP := Lib.hid hsp; clear hsp hm
  obtain ⟨L, hL⟩ : ∃ L, L = Lib.splitB (sepB 44) 0 (min 7 (t.size + 1) - 1) t := ⟨_, rfl⟩
  have HL1 := Lib.hid (show ∀ ms : List Int, ms.length = 6 → NumsOf t 44 ms → L = ms.map numT from fun ms h6 h => by
    rw [hL]
    exact split_nums (N := 6) comma_no h (by omega) (nums_len h))
  have hpc : Pieces t 44 L := by rw [hL]; exact split_pieces 44 _ t
  have HPC := Lib.hid hpc; clear hpc
  have hsp := HSP.out
  rw [← hL] at hsp
  have HSP2 := Lib.hid hsp; clear hsp HSP hL
  generalize min 7 (t.size + 1) = N at *
  go_enter Tryz.func73, Tryz.ntmps73
  go_wp2_with fail
  refine HSP2.out.mono ?_
  rintro e w1 ⟨rfl, rfl⟩
  clear HSP2
  have hb1 : Below w.heap.size w (w.alloc (.cells (Lib.cellsOf L N) 9)) := bal (Below.refl _ _) _
  have hc1 := fun (j : Nat) (h : j < L.length) => cells_part w L N 9 j h
  generalize w.alloc (.cells (Lib.cellsOf L N) 9) = w1 at *
  have HC1 := Lib.hid hc1; clear hc1
  have hz1 : w.heap.size < w1.heap.size ∨ L.length = 0 := by
    by_cases h0 : 0 < L.length
    · exact Or.inl (World.block_lt_of_cell? w1 _ (HC1.out 0 h0))
    · exact Or.inr (by omega)
  by_cases h6 : L.length = 6
  · rw [h6]
    have hp1 : w.heap.size < w1.heap.size := by omega
    have hpg : w.heap.size ≠ g := by omega
    have HPL := Lib.hid (piece_len HPC.out)
    have HC2 := Lib.hid (show ∀ j (h : j < 6), ∃ x, w1.cell? ⟨w.heap.size, j, none⟩ = some (.string x) ∧ L.take (j + 1) = L.take j ++ [x] ∧ x.size ≤ t.size ∧ x ∈ L from fun j h => ⟨L[j], HC1.out j (by omega), List.take_succ_eq_append_getElem (by omega), HPL.out _ (List.getElem_mem _), List.getElem_mem _⟩)
    have H6 := Lib.hid h6
    have HS1 := Lib.hid (HS.out.below hb1 hgl)
    have HF1 := Lib.hid (HF.out.below hb1 (fun b e => by simp [blk] at e; omega))
    have HQ1 := Lib.hid (show Places w1 q g from fun i hi => (hb1.cell (p := ⟨q, i, none⟩) hql).trans (HQ.out i hi))
    have hq1 : q < w1.heap.size := Nat.lt_trans hql hp1
    have hg1 : g < w1.heap.size := Nat.lt_trans hgl hp1
    have HGW := Lib.hid (grown_of_below hb1 (some g))
    generalize w.heap.size = pw at *
    clear HC1 HPL h6 hz1 HS HF HQ
    go_wp2_with fail
    go_loopw [22] (fun i wr => ∃ (j : Nat) (a : GAgg), i = .int .i64 j ∧ j ≤ 6 ∧ Hid (Six wr g a) ∧ Hid (Free wr (some ⟨g, 0, none⟩)) ∧ Hid (L.take j = (a.nums.take j).map numT ∧ ∀ n ∈ a.nums.take j, FitI n) ∧ Hid (w1.grownBy wr (some g))) (fun i _ => 6 - (intOf i).toNat)
    case atStart => exact ⟨0, a0, rfl, by omega, HS1, HF1, Lib.hid ⟨rfl, by simp⟩, Lib.hid (grown_of_below (Below.refl _ _) _)⟩
    case round =>
      obtain ⟨j, a, rfl, hj, HS, HF, HT, HG⟩ := hrel
      have hBr : Below B w wr := (hb1.mono (by omega)).trans (below_of_grown HG.out (by omega) (fun g' e => by injection e with e; omega))
      have hgr : g < wr.heap.size := Nat.lt_of_lt_of_le hg1 HG.out.size
      by_cases hlt : j < 6
      · obtain ⟨X, hx1, hx2, hx3, hx4⟩ := HC2.out j hlt
        have q0 : wr.cell? ⟨pw, j, none⟩ = some (.string X) := (grown_far HG.out (p := ⟨pw, j, none⟩) hp1 hpg).trans hx1
        have q1 : wr.cell? ⟨q, j, none⟩ = some (.pointer (some ⟨g, j, none⟩)) := (grown_far HG.out (p := ⟨q, j, none⟩) hq1 hqg).trans (HQ1.out j hlt)
        have Q1 := Lib.hid q1; clear q1
        have HX2 := Lib.hid hx2
        have HX4 := Lib.hid hx4
        have hrd := readNumber_any X wr (by omega) (HEB.out wr hBr).1 (HEB.out wr hBr).2
        have Hrd := Lib.hid hrd; clear hrd hx1 hx2 hx4
        go_wp2_with fail
        refine Hrd.out.mono ?_
        rintro e w3 ⟨n, b, rfl, hn, _, hb3⟩
        clear Hrd
        have HG3 := Lib.hid (grown_trans HG.out (grown_of_below hb3 (some g)))
        have HS3 := Lib.hid (HS.out.below hb3 hgr)
        have HF3 := Lib.hid (HF.out.below hb3 (fun b e => by simp [blk] at e; omega))
        rcases hn with ⟨rfl, rfl, hf1, hf2⟩ | ⟨rfl, hno⟩
        · have HT2 := Lib.hid (show L.take (j + 1) = ((a.setN j n).nums.take (j + 1)).map numT ∧ ∀ x ∈ (a.setN j n).nums.take (j + 1), FitI x from by
            rw [setN_nums a j n hlt]
            refine ⟨by rw [HX2.out, HT.out.1]; simp, fun x hx => ?_⟩
            rcases List.mem_append.1 hx with hx | hx
            · exact HT.out.2 x hx
            · simp at hx; subst hx; exact ⟨hf1, hf2⟩)
          have HS4 := Lib.hid (six_setN HS3.out j n hlt)
          have HF4 := Lib.hid (Free.setCell HF3.out ⟨g, j, none⟩ (.int .i64 n))
          have HG4 := Lib.hid (grown_setCell HG3.out ⟨g, j, none⟩ (Or.inl rfl) (.int .i64 n))
          obtain ⟨v0, c0⟩ := six_at HS3.out j hlt
          have f0 : w3.frozen? ⟨g, j, none⟩ = false := HF3.out g rfl j
          have q1 : w3.cell? ⟨q, j, none⟩ = some (.pointer (some ⟨g, j, none⟩)) := (hb3.cell (Nat.lt_of_lt_of_le hq1 HG.out.size)).trans Q1.out
          clear HT HS HF HG HS3 HF3 HG3 HX2 HX4 Q1 hb3 hBr hx3
          go_wp2
          exact ⟨⟨j + 1, a.setN j n, by go_num, by omega, HS4, HF4, HT2, HG4⟩, by simp [intOf]; omega⟩
        · have HN := Lib.hid (show ∀ ms, ms.length = 6 → (∀ m ∈ ms, Small m) → ¬ NumsOf t 44 ms from fun ms hl hs h => by
            have hx := HX4.out
            rw [HL1.out ms hl h] at hx
            obtain ⟨m, hm, e⟩ := List.mem_map.1 hx
            exact hno m (hs m hm) e.symm)
          have HGw := Lib.hid (grown_trans HGW.out HG3.out)
          clear HT HS HF HG HF3 HG3 HX2 HX4 Q1 hb3 hBr hno
          go_wp2
          go_ret
          exact ⟨false, rfl, HGw.out, a, HS3.out, Or.inr ⟨rfl, HN.out⟩⟩
      · obtain rfl : j = 6 := by omega
        have HN := Lib.hid (show NumsOf t 44 a.nums ∧ ∀ n ∈ a.nums, FitI n from by
          obtain ⟨h1, h2⟩ := HT.out
          have e1 : L.take 6 = L := List.take_of_length_le (by rw [H6.out]; exact Nat.le_refl _)
          have e2 : a.nums.take 6 = a.nums := rfl
          rw [e1, e2] at h1
          rw [e2] at h2
          refine ⟨?_, h2⟩
          unfold NumsOf
          rw [← h1]
          exact HPC.out)
        have HGw := Lib.hid (grown_trans HGW.out HG.out)
        clear HT hBr
        go_wp2
        go_ret
        exact ⟨true, rfl, HGw.out, a, HS.out, Or.inl ⟨rfl, HN.out.1, HN.out.2⟩⟩
  · have hd : ((L.length : Int) != 6) = true := by simp; omega
    have HN := Lib.hid (show ∀ ms, ms.length = 6 → (∀ m ∈ ms, Small m) → ¬ NumsOf t 44 ms from fun ms hl _ h => by
      have := congrArg List.length (HL1.out ms hl h)
      rw [List.length_map] at this
      omega)
    clear HL1 HC1 h6 hz1
    go_wp2
    go_ret
    exact ⟨false, rfl, grown_of_below hb1 _, a0, HS.out.below hb1 hgl, Or.inr ⟨rfl, HN.out⟩⟩

theorem places_new (w : World) (g : Nat) (T : TypeId) : Places (w.alloc (.cells #[.pointer (some ⟨g, 0, none⟩), .pointer (some ⟨g, 1, none⟩), .pointer (some ⟨g, 2, none⟩), .pointer (some ⟨g, 3, none⟩), .pointer (some ⟨g, 4, none⟩), .pointer (some ⟨g, 5, none⟩)] T)) w.heap.size g := by
  intro i hi
  rw [World.cell?_alloc_new]
  match i, hi with
  | 0, _ => rfl
  | 1, _ => rfl
  | 2, _ => rfl
  | 3, _ => rfl
  | 4, _ => rfl
  | 5, _ => rfl

set_option maxRecDepth 100000 in
theorem readAgg_any (t : ByteArray) (w : World) (ht : t.size ≤ 2 ^ 63 - 1) (hE : Errs w) (hP : Pow w) (hM : MaxL w) : Calls Tryz.prog 127 #[.string t] w fun e w' => ∃ a cd, e = .returned (.tuple #[.agg #[.int .i64 a.cnt, .int .i64 a.sum, .int .i64 a.mn, .int .i64 a.mx, .int .i64 a.fst, .int .i64 a.lst], .int .i64 cd]) ∧ AggCode t a cd ∧ Below w.heap.size w w' := by
  have HE := Lib.hid hE; clear hE
  have HP := Lib.hid hP; clear hP
  have HM := Lib.hid hM; clear hM
  go_enter Tryz.func127, Tryz.ntmps127
  go_wp2_with fail
  have hZ := ZeroAt.new w 99
  have hbw : Below w.heap.size w (w.alloc (.cells #[.int .i64 0, .int .i64 0, .int .i64 0, .int .i64 0, .int .i64 0, .int .i64 0] 99)) := bal (Below.refl _ _) _
  have hsz : (w.alloc (.cells #[.int .i64 0, .int .i64 0, .int .i64 0, .int .i64 0, .int .i64 0, .int .i64 0] 99)).heap.size = w.heap.size + 1 := by simp
  generalize w.alloc (.cells #[.int .i64 0, .int .i64 0, .int .i64 0, .int .i64 0, .int .i64 0, .int .i64 0] 99) = w0 at *
  have hb0 : Below w.heap.size w (w0.alloc (.cells #[.string t] 9)) := bal hbw _
  have hZ0 := hZ.below (bal (Below.refl _ w0) (.cells #[.string t] 9)) hZ.2.2
  have cW : (w0.alloc (.cells #[.string t] 9)).cell? ⟨w.heap.size + 1, 0, none⟩ = some (.string t) := by rw [← hsz]; simp
  have hEP := fun w' (h : Below w.heap.size w w') => And.intro (HE.out.below h (Nat.le_refl _)) (And.intro (HP.out.below h (Nat.le_refl _)) (HM.out.below h (Nat.le_refl _)))
  have HEP := Lib.hid hEP; clear hEP
  generalize w0.alloc (.cells #[.string t] 9) = W at *
  generalize hx0 : w.heap.size = x0 at *
  have Hx0 := Lib.hid hx0
  have hx1 : x0 < W.heap.size := hZ0.2.2
  have HZ := Lib.hid hZ0
  clear hx0 hZ0 hZ hbw hsz HE HP HM
  refine (tooLong_any (x0 + 1) t W cW ht).mono ?_
  rintro e w' ⟨rfl, rfl⟩
  clear cW
  cases hl : decide (65536 < (t.size : Int))
  · have hs : t.size ≤ 65536 := by simp at hl; omega
    clear hl
    go_wp2_with fail
    have hS1 := Six.new W zAgg 99
    have hF1 := free_alloc W #[.int .i64 0, .int .i64 0, .int .i64 0, .int .i64 0, .int .i64 0, .int .i64 0] 99 0
    have hb1 : Below W.heap.size W (W.alloc (.cells #[.int .i64 0, .int .i64 0, .int .i64 0, .int .i64 0, .int .i64 0, .int .i64 0] 99)) := bal (Below.refl _ _) _
    have hz1 : (W.alloc (.cells #[.int .i64 0, .int .i64 0, .int .i64 0, .int .i64 0, .int .i64 0, .int .i64 0] 99)).heap.size = W.heap.size + 1 := by simp
    have hS1' : Six (W.alloc (.cells #[.int .i64 0, .int .i64 0, .int .i64 0, .int .i64 0, .int .i64 0, .int .i64 0] 99)) W.heap.size zAgg := hS1
    clear hS1
    generalize W.alloc (.cells #[.int .i64 0, .int .i64 0, .int .i64 0, .int .i64 0, .int .i64 0, .int .i64 0] 99) = W1 at *
    obtain ⟨g, hg⟩ : ∃ g, g = W.heap.size := ⟨_, rfl⟩
    rw [← hg] at hb1 hz1 hS1' hF1 hx1 ⊢
    have hPl := places_new W1 g 126
    rw [hz1] at hPl
    have hb2 : Below W1.heap.size W1 (W1.alloc (.cells #[.pointer (some ⟨g, 0, none⟩), .pointer (some ⟨g, 1, none⟩), .pointer (some ⟨g, 2, none⟩), .pointer (some ⟨g, 3, none⟩), .pointer (some ⟨g, 4, none⟩), .pointer (some ⟨g, 5, none⟩)] 126)) := bal (Below.refl _ _) _
    have hz2 : g + 1 < (W1.alloc (.cells #[.pointer (some ⟨g, 0, none⟩), .pointer (some ⟨g, 1, none⟩), .pointer (some ⟨g, 2, none⟩), .pointer (some ⟨g, 3, none⟩), .pointer (some ⟨g, 4, none⟩), .pointer (some ⟨g, 5, none⟩)] 126)).heap.size := by simp; omega
    generalize W1.alloc (.cells #[.pointer (some ⟨g, 0, none⟩), .pointer (some ⟨g, 1, none⟩), .pointer (some ⟨g, 2, none⟩), .pointer (some ⟨g, 3, none⟩), .pointer (some ⟨g, 4, none⟩), .pointer (some ⟨g, 5, none⟩)] 126) = W2 at *
    have hgl : g < W1.heap.size := by omega
    have hS2 := hS1'.below hb2 hgl
    have hF2 := hF1.below hb2 (fun b e => by simp [blk] at e; omega)
    have hB2 : Below g W W2 := hb1.trans (hb2.mono (by omega))
    have hZ2 := HZ.out.below hB2 hx1
    have hBw : Below x0 w W2 := hb0.trans (hB2.mono (by omega))
    have hcall := readNums_any x0 g (g + 1) t zAgg W2 hS2 hF2 hPl (by omega) hz2 (by omega) hs (HEP.out W2 hBw).1 (HEP.out W2 hBw).2.1 (HEP.out W2 hBw).2.2 (by omega) (fun w' h => ⟨(HEP.out w' (hBw.trans h)).1, (HEP.out w' (hBw.trans h)).2.1⟩)
    have HC := Lib.hid hcall
    have HZ2 := Lib.hid hZ2
    have hxg : x0 ≠ g := by omega
    have hx2 : x0 < W2.heap.size := by omega
    clear hcall hZ2 hS2 hF2 hPl hS1' hF1 hb1 hb2 hz1 hB2 hb0 HZ hg HEP
    refine HC.out.mono ?_
    rintro e w3 ⟨b, rfl, hG, a, hS3, hR⟩
    have hZ3 : ZeroAt w3 x0 := ⟨⟨(grown_far hG (p := ⟨x0, 0, none⟩) hx2 hxg).trans HZ2.out.1.1, (grown_far hG (p := ⟨x0, 1, none⟩) hx2 hxg).trans HZ2.out.1.2.1, (grown_far hG (p := ⟨x0, 2, none⟩) hx2 hxg).trans HZ2.out.1.2.2.1, (grown_far hG (p := ⟨x0, 3, none⟩) hx2 hxg).trans HZ2.out.1.2.2.2.1, (grown_far hG (p := ⟨x0, 4, none⟩) hx2 hxg).trans HZ2.out.1.2.2.2.2.1, (grown_far hG (p := ⟨x0, 5, none⟩) hx2 hxg).trans HZ2.out.1.2.2.2.2.2⟩, fun b e i => by
      simp [blk] at e
      subst e
      have hblk := hG.block x0 hx2 (fun e => hxg (by injection e))
      have := HZ2.out.2.1 x0 rfl i
      unfold World.frozen? at this ⊢
      rw [hblk]
      exact this, Nat.lt_of_lt_of_le hx2 hG.size⟩
    have hB3 : Below x0 w w3 := hBw.trans (below_of_grown hG (by omega) (fun g' e => by injection e with e; omega))
    have hg3 : g < w3.heap.size := Nat.lt_of_lt_of_le (by omega) hG.size
    clear HC HZ2 hG hBw
    rcases hR with ⟨rfl, hN, hf⟩ | ⟨rfl, hno⟩
    · have HN := Lib.hid hN; have HF := Lib.hid hf; clear hN hf
      have HZ3 := Lib.hid hZ3; clear hZ3
      have HS3 := Lib.hid hS3
      obtain ⟨s0, s1, s2, s3, s4, s5⟩ : (w3.cell? ⟨g, 0, none⟩ = some (.int .i64 a.cnt) ∧ w3.cell? ⟨g, 1, none⟩ = some (.int .i64 a.sum) ∧ w3.cell? ⟨g, 2, none⟩ = some (.int .i64 a.mn) ∧ w3.cell? ⟨g, 3, none⟩ = some (.int .i64 a.mx) ∧ w3.cell? ⟨g, 4, none⟩ = some (.int .i64 a.fst) ∧ w3.cell? ⟨g, 5, none⟩ = some (.int .i64 a.lst)) := hS3
      by_cases hp : AggP a
      · have HR := Lib.hid (show AggCode t a 0 from Or.inr (Or.inl ⟨hs, ⟨hp, HN.out⟩, rfl⟩))
        have Hp := Lib.hid hp; clear hp HN HF
        go_wp2_with fail
        refine (aggOK_b a true (by simp [Hp.out]) w3).mono ?_
        rintro e w4 ⟨rfl, hb4⟩
        have hZ4 := HZ3.out.below hb4 HZ3.out.2.2
        have hS4 := HS3.out.below hb4 hg3
        have hB4 : Below x0 w w4 := hB3.trans (hb4.mono (by omega))
        have hx4 : x0 < w4.heap.size := hZ4.2.2
        obtain ⟨⟨z0, z1, z2, z3, z4, z5⟩, y0', y1', y2', y3', y4', y5'⟩ := hZ4.cells
        clear s0 s1 s2 s3 s4 s5 hZ4 HZ3 HS3 hb4 hB3
        obtain ⟨s0, s1, s2, s3, s4, s5⟩ : (w4.cell? ⟨g, 0, none⟩ = some (.int .i64 a.cnt) ∧ w4.cell? ⟨g, 1, none⟩ = some (.int .i64 a.sum) ∧ w4.cell? ⟨g, 2, none⟩ = some (.int .i64 a.mn) ∧ w4.cell? ⟨g, 3, none⟩ = some (.int .i64 a.mx) ∧ w4.cell? ⟨g, 4, none⟩ = some (.int .i64 a.fst) ∧ w4.cell? ⟨g, 5, none⟩ = some (.int .i64 a.lst)) := hS4
        go_wp2
        refine bodyPost_ret (v := .tuple #[.agg #[.int .i64 a.cnt, .int .i64 a.sum, .int .i64 a.mn, .int .i64 a.mx, .int .i64 a.fst, .int .i64 a.lst], .int .i64 0]) (by simp [results, Tryz.results127, go_sem, *]) rfl ⟨a, 0, rfl, HR.out, ?_⟩
        rw [Hx0.out]
        exact setAgg_below hB4 (Nat.le_refl _) a
      · have HR := Lib.hid (show AggCode t zAgg 3 from Or.inr (Or.inr ⟨hs, noAgg_bad HN.out HF.out hp, rfl, rfl⟩))
        have Hp := Lib.hid hp; clear hp HN HF
        go_wp2_with fail
        refine (aggOK_b a false (by simp [Hp.out]) w3).mono ?_
        rintro e w4 ⟨rfl, hb4⟩
        have hZ4 := HZ3.out.below hb4 HZ3.out.2.2
        have hB4 : Below x0 w w4 := hB3.trans (hb4.mono (by omega))
        have hx4 : x0 < w4.heap.size := hZ4.2.2
        obtain ⟨⟨z0, z1, z2, z3, z4, z5⟩, y0', y1', y2', y3', y4', y5'⟩ := hZ4.cells
        clear s0 s1 s2 s3 s4 s5 hZ4 HZ3 HS3 hb4 hB3
        go_wp2
        refine bodyPost_ret (v := .tuple #[.agg #[.int .i64 0, .int .i64 0, .int .i64 0, .int .i64 0, .int .i64 0, .int .i64 0], .int .i64 3]) (by simp [results, Tryz.results127, go_sem, *]) rfl ⟨zAgg, 3, rfl, HR.out, ?_⟩
        rw [Hx0.out]
        exact setAgg_below hB4 (Nat.le_refl _) zAgg
    · have HR := Lib.hid (show AggCode t zAgg 3 from Or.inr (Or.inr ⟨hs, noAgg_of hno, rfl, rfl⟩))
      obtain ⟨⟨z0, z1, z2, z3, z4, z5⟩, y0', y1', y2', y3', y4', y5'⟩ := hZ3.cells
      have hx3 : x0 < w3.heap.size := hZ3.2.2
      clear hno hZ3 hS3
      go_wp2
      refine bodyPost_ret (v := .tuple #[.agg #[.int .i64 0, .int .i64 0, .int .i64 0, .int .i64 0, .int .i64 0, .int .i64 0], .int .i64 3]) (by simp [results, Tryz.results127, go_sem, *]) rfl ⟨zAgg, 3, rfl, HR.out, ?_⟩
      rw [Hx0.out]
      exact setAgg_below hB3 (Nat.le_refl _) zAgg
  · have HR := Lib.hid (show AggCode t zAgg 2 from Or.inl ⟨by simp at hl; omega, rfl, rfl⟩)
    obtain ⟨⟨z0, z1, z2, z3, z4, z5⟩, y0', y1', y2', y3', y4', y5'⟩ := HZ.out.cells
    clear HZ HEP
    go_wp2
    refine bodyPost_ret (v := .tuple #[.agg #[.int .i64 0, .int .i64 0, .int .i64 0, .int .i64 0, .int .i64 0, .int .i64 0], .int .i64 2]) (by simp [results, Tryz.results127, go_sem, *]) rfl ⟨zAgg, 2, rfl, HR.out, ?_⟩
    rw [Hx0.out]
    exact setAgg_below hb0 (Nat.le_refl _) zAgg

end Go.Proofs.YtjmfffmjfbpgjaaGreatDoor
