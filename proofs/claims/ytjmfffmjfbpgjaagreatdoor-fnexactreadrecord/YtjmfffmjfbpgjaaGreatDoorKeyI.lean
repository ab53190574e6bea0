/-
  Contract of impl.DataKey. Conditions: the library's table of powers of ten and the program's table of paths are as their texts lay them.
-/
import Derived.Test.YtjmfffmjfbpgjaaGreatDoorKeyM
import Derived.Test.YtjmfffmjfbpgjaaGreatDoorTierA
import Derived.Deep.RegionHeld3
namespace Go.Proofs.YtjmfffmjfbpgjaaGreatDoor
open Go.ChangeShapes Go.WideShapes Go.ChangeAt Go.RowKit
set_option linter.unusedVariables false
set_option linter.unusedSimpArgs false

/-- the program's paths of tiers are as they were laid -/
def Paths (w : World) : Prop := ∀ t, t < 3 → w.cell? ⟨0, t, none⟩ = some (.string (pathT t))

theorem Paths.below {w w' : World} {B : Nat} (h : Paths w) (hb : Below B w w') (hB : 0 < B) : Paths w' := fun t ht => (hb.cell (p := ⟨0, t, none⟩) hB).trans (h t ht)

theorem within_b (n lo hi : Int) (b : Bool) (h : inB n lo hi = b) (w : World) : Calls Tryz.prog 61 #[.int .i64 n, .int .i64 lo, .int .i64 hi] w fun e w' => e = .returned (.bool b) ∧ w = w' :=
  (within_any n lo hi w).mono fun e w' ⟨he, hB⟩ => ⟨by rw [he, h], hB⟩

set_option maxRecDepth 100000 in
theorem dataKeyOK_any (t n m : Nat) (h3 : t < 3) (hn : n ≤ 999999) (hm : m ≤ 999999) (w : World) (ht : Pow w) (hp : Paths w) (sB : 0 < w.heap.size) : Calls Tryz.prog 17 #[.int .i64 t, .int .i64 n, .int .i64 m] w fun e w' => e = .returned (.tuple #[.string (keyT t n m), .int .i64 0]) ∧ Below w.heap.size w w' := by
  have Ht := Lib.hid ht; clear ht
  have p0 := hp t h3
  clear hp
  have d1 : inB (t : Int) 0 2 = true := inB_iff.2 ⟨by omega, by omega⟩
  have d2 : inB (n : Int) 0 999999 = true := inB_iff.2 ⟨by omega, by omega⟩
  have d3 : inB (m : Int) 0 999999 = true := inB_iff.2 ⟨by omega, by omega⟩
  have i0 : (0 : Int) ≤ (t : Int) := by omega
  have i1 : (t : Int) < 3 := by omega
  have s0 : (pathT t).size ≤ 4 := by unfold pathT; split <;> decide
  have s1 := sixT_size n
  have s2 := sixT_size m
  have z1 : ¬ 9223372036854775807 < (pathT t).size + (sixT n).size := by omega
  have z2 : ¬ 9223372036854775807 < (pathT t).size + (sixT n).size + 1 := by omega
  have z3 : ¬ 9223372036854775807 < (pathT t).size + (sixT n).size + 1 + (sixT m).size := by omega
  have z4 : ¬ 9223372036854775807 < (pathT t).size + 6 := by omega
  have z5 : ¬ 9223372036854775807 < (pathT t).size + 6 + 1 := by omega
  have z6 : ¬ 9223372036854775807 < (pathT t).size + 6 + 1 + 6 := by omega
  have E := Lib.hid (show keyT t n m = pathT t ++ sixT n ++ ⟨#[45]⟩ ++ sixT m from rfl)
  go_enter Tryz.func17, Tryz.ntmps17
  go_wp2_with (first | (go_at_call 60; refine (isTier_any _ _).mono ?_; rintro e w' ⟨rfl, rfl⟩) | (go_at_call 61; refine (within_any _ _ _ _).mono ?_; rintro e w' ⟨rfl, rfl⟩))
  refine wp_region_noPanic ?_
  refine wp_region_held_drew (S := (fun w' => w'.cell? ⟨0, t, none⟩ = some (.string (pathT t)))) (by kernel_rfl) (p0) (fun hHeld => ?_)
  refine wpAnyH_take (i := 0) (oi := { dst := some 21, op := Op.move (Operand.tmp 0), type := 3, pos := "l03_codec.go:75", after := #[], guard := none }) (v := ?vb0) rfl (by kernel_rfl) (by kernel_rfl) (by kernel_rfl) (fun _ _ _ h => h) (Or.inl ⟨by rfl, ?hyb0⟩) (by assumption) ?restb0
  case hyb0 => intro w hSw; (try dsimp only at hSw); (first | (go_simp; done) | (go_simp; with_reducible rfl) | (with_reducible rfl))
  try simp only [Act.put, List.setIfInBounds_toArray, List.set_cons_zero, List.set_cons_succ]
  refine wpAnyH_take (i := 1) (oi := { dst := some 22, op := Op.indexAddr 109 (Operand.global 0) (Operand.tmp 21), type := 0, pos := "l03_codec.go:75", after := #[{ on := 0, ground := Ground.data }], guard := none }) (v := ?vb1) rfl (by kernel_rfl) (by kernel_rfl) (by kernel_rfl) (fun _ _ _ h => h) (Or.inl ⟨by rfl, ?hyb1⟩) (by assumption) ?restb1
  case hyb1 => intro w hSw; (try dsimp only at hSw); (first | (go_simp; done) | (go_simp; with_reducible rfl) | (with_reducible rfl))
  try simp only [Act.put, List.setIfInBounds_toArray, List.set_cons_zero, List.set_cons_succ]
  refine wpAnyH_take (i := 2) (oi := { dst := some 23, op := Op.load 9 (Operand.tmp 22), type := 9, pos := "l03_codec.go:75", after := #[{ on := 1, ground := Ground.data }], guard := none }) (v := ?vb2) rfl (by kernel_rfl) (by kernel_rfl) (by kernel_rfl) (fun _ _ _ h => h) (Or.inl ⟨by rfl, ?hyb2⟩) (by assumption) ?restb2
  case hyb2 => intro w hSw; (try dsimp only at hSw); (first | (go_simp; done) | (go_simp; with_reducible rfl) | (with_reducible rfl))
  try simp only [Act.put, List.setIfInBounds_toArray, List.set_cons_zero, List.set_cons_succ]
  refine wpAnyH_take (i := 3) (oi := { dst := some 24, op := Op.move (Operand.tmp 1), type := 3, pos := "l03_codec.go:75", after := #[], guard := none }) (v := ?vb3) rfl (by kernel_rfl) (by kernel_rfl) (by kernel_rfl) (fun _ _ _ h => h) (Or.inl ⟨by rfl, ?hyb3⟩) (by assumption) ?restb3
  case hyb3 => intro w hSw; (try dsimp only at hSw); (first | (go_simp; done) | (go_simp; with_reducible rfl) | (with_reducible rfl))
  try simp only [Act.put, List.setIfInBounds_toArray, List.set_cons_zero, List.set_cons_succ]
  refine wpAnyH_take (i := 7) (oi := { dst := some 28, op := Op.move (Operand.tmp 2), type := 3, pos := "l03_codec.go:75", after := #[], guard := none }) (v := ?vb7) rfl (by kernel_rfl) (by kernel_rfl) (by kernel_rfl) (fun _ _ _ h => h) (Or.inl ⟨by rfl, ?hyb7⟩) (by assumption) ?restb7
  case hyb7 => intro w hSw; (try dsimp only at hSw); (first | (go_simp; done) | (go_simp; with_reducible rfl) | (with_reducible rfl))
  try simp only [Act.put, List.setIfInBounds_toArray, List.set_cons_zero, List.set_cons_succ]
  refine wpAnyH_ready (rs := [4]) (by kernel_rfl) (by simp) ?_
  refine AllReadyH.cons (o := { dst := some 25, op := Op.call { callee := Callee.value (Operand.func 62), args := #[Operand.tmp 24], argTypes := #[3] }, type := 9, pos := "l03_codec.go:75", after := #[{ on := 3, ground := Ground.data }], guard := none }) rfl (fun K hK => ?_) AllReadyH.nil
  go_simp
  refine (keyedText_any n hn w.drew (Ht.out.below (Below.refl _ _).drew (Nat.le_refl _))).mono ?_
  rintro e w1 ⟨rfl, hb1⟩
  go_wp2_with fail
  refine hK.out _ _ ((hb1.cell sB).trans p0) (fun hHeld => ?_)
  clear hK K
  try simp only [Act.put, List.setIfInBounds_toArray, List.set_cons_zero, List.set_cons_succ]
  refine wpAnyH_take (i := 5) (oi := { dst := some 26, op := Op.binOp BinOp.add 9 (Operand.tmp 23) (Operand.tmp 25) 9, type := 9, pos := "l03_codec.go:75", after := #[{ on := 2, ground := Ground.data }, { on := 4, ground := Ground.data }], guard := none }) (v := ?vb5) rfl (by kernel_rfl) (by kernel_rfl) (by kernel_rfl) (fun _ _ _ h => h) (Or.inl ⟨by rfl, ?hyb5⟩) (by assumption) ?restb5
  case hyb5 => intro w hSw; (try dsimp only at hSw); (first | (go_simp; done) | (go_simp; with_reducible rfl) | (with_reducible rfl))
  try simp only [Act.put, List.setIfInBounds_toArray, List.set_cons_zero, List.set_cons_succ]
  refine wpAnyH_take (i := 6) (oi := { dst := some 27, op := Op.binOp BinOp.add 9 (Operand.tmp 26) (Operand.const (Value.string { data := #[45] })) 9, type := 9, pos := "l03_codec.go:75", after := #[{ on := 5, ground := Ground.data }], guard := none }) (v := ?vb6) rfl (by kernel_rfl) (by kernel_rfl) (by kernel_rfl) (fun _ _ _ h => h) (Or.inl ⟨by rfl, ?hyb6⟩) (by assumption) ?restb6
  case hyb6 => intro w hSw; (try dsimp only at hSw); (first | (go_simp; done) | (go_simp; with_reducible rfl) | (with_reducible rfl))
  try simp only [Act.put, List.setIfInBounds_toArray, List.set_cons_zero, List.set_cons_succ]
  refine wpAnyH_ready (rs := [8]) (by kernel_rfl) (by simp) ?_
  refine AllReadyH.cons (o := { dst := some 29, op := Op.call { callee := Callee.value (Operand.func 62), args := #[Operand.tmp 28], argTypes := #[3] }, type := 9, pos := "l03_codec.go:75", after := #[{ on := 7, ground := Ground.data }, { on := 4, ground := Ground.chain }], guard := none }) rfl (fun K hK => ?_) AllReadyH.nil
  go_simp
  refine (keyedText_any m hm w1 (Ht.out.below ((Below.refl _ _).drew.trans hb1) (Nat.le_refl _))).mono ?_
  rintro e w2 ⟨rfl, hb2⟩
  go_wp2_with fail
  refine hK.out _ _ ((hb2.cell (Nat.lt_of_lt_of_le sB hb1.size)).trans ((hb1.cell sB).trans p0)) (fun hHeld => ?_)
  clear hK K
  try simp only [Act.put, List.setIfInBounds_toArray, List.set_cons_zero, List.set_cons_succ]
  refine wpAnyH_take (i := 9) (oi := { dst := some 30, op := Op.binOp BinOp.add 9 (Operand.tmp 27) (Operand.tmp 29) 9, type := 9, pos := "l03_codec.go:75", after := #[{ on := 6, ground := Ground.data }, { on := 8, ground := Ground.data }], guard := none }) (v := ?vb9) rfl (by kernel_rfl) (by kernel_rfl) (by kernel_rfl) (fun _ _ _ h => h) (Or.inl ⟨by rfl, ?hyb9⟩) (by assumption) ?restb9
  case hyb9 => intro w hSw; (try dsimp only at hSw); (first | (go_simp; done) | (go_simp; with_reducible rfl) | (with_reducible rfl))
  try simp only [Act.put, List.setIfInBounds_toArray, List.set_cons_zero, List.set_cons_succ]
  refine wpAnyH_take (i := 10) (oi := { dst := some 6, op := Op.assign (Operand.tmp 30), type := 9, pos := "l03_codec.go:75", after := #[{ on := 9, ground := Ground.data }, { on := 8, ground := Ground.chain }, { on := 0, ground := Ground.phase }, { on := 1, ground := Ground.phase }, { on := 2, ground := Ground.phase }, { on := 3, ground := Ground.phase }, { on := 4, ground := Ground.phase }, { on := 5, ground := Ground.phase }, { on := 6, ground := Ground.phase }, { on := 7, ground := Ground.phase }, { on := 8, ground := Ground.phase }, { on := 9, ground := Ground.phase }], guard := none }) (v := ?vb10) rfl (by kernel_rfl) (by kernel_rfl) (by kernel_rfl) (fun _ _ _ h => h) (Or.inl ⟨by rfl, ?hyb10⟩) (by assumption) ?restb10
  case hyb10 => intro w hSw; (try dsimp only at hSw); (first | (go_simp; done) | (go_simp; with_reducible rfl) | (with_reducible rfl))
  try simp only [Act.put, List.setIfInBounds_toArray, List.set_cons_zero, List.set_cons_succ]
  refine wpAnyH_take (i := 11) (oi := { dst := some 7, op := Op.assign (Operand.const (Value.int IntKind.i64 0)), type := 3, pos := "l03_codec.go:75", after := #[{ on := 10, ground := Ground.chain }, { on := 0, ground := Ground.phase }, { on := 1, ground := Ground.phase }, { on := 2, ground := Ground.phase }, { on := 3, ground := Ground.phase }, { on := 4, ground := Ground.phase }, { on := 5, ground := Ground.phase }, { on := 6, ground := Ground.phase }, { on := 7, ground := Ground.phase }, { on := 8, ground := Ground.phase }, { on := 9, ground := Ground.phase }, { on := 10, ground := Ground.phase }], guard := none }) (v := ?vb11) rfl (by kernel_rfl) (by kernel_rfl) (by kernel_rfl) (fun _ _ _ h => h) (Or.inl ⟨by rfl, ?hyb11⟩) (by assumption) ?restb11
  case hyb11 => intro w hSw; (try dsimp only at hSw); (first | (go_simp; done) | (go_simp; with_reducible rfl) | (with_reducible rfl))
  try simp only [Act.put, List.setIfInBounds_toArray, List.set_cons_zero, List.set_cons_succ]
  refine wpAnyH_done (by kernel_rfl) ?_ _
  refine NoPanic.normal ?_
  have b2 : Below w.heap.size w w2 := bnext (bnext (Below.refl _ _) ((Below.refl _ _).drew.trans hb1)) hb2
  clear hb1 hb2 p0 hHeld
  obtain ⟨J, hJ⟩ : ∃ J, J = pathT t ++ sixT n ++ ⟨#[45]⟩ ++ sixT m := ⟨_, rfl⟩
  rw [← hJ]
  have HE := Lib.hid (E.out.trans hJ.symm)
  clear E hJ
  go_wp2
  exact bodyPost_ret (v := .tuple #[.string J, .int .i64 0]) (by simp [results, Tryz.results17, go_sem]) rfl ⟨by rw [HE.out], b2⟩

theorem dataKeyNo_any (t n m : Int) (h : ¬ KeyNP t n m) (w : World) : Calls Tryz.prog 17 #[.int .i64 t, .int .i64 n, .int .i64 m] w fun e w' => e = .returned (.tuple #[.string ⟨#[]⟩, .int .i64 4]) ∧ Below w.heap.size w w' := by
  rw [keyP_iff] at h
  have Hh := Lib.hid h; clear h
  cases h1 : inB t 0 2
  · go_enter Tryz.func17, Tryz.ntmps17
    go_wp2_with (first | (go_at_call 60; refine (isTier_any _ _).mono ?_; rintro e w' ⟨rfl, rfl⟩) | (go_at_call 61; refine (within_any _ _ _ _).mono ?_; rintro e w' ⟨rfl, rfl⟩))
    exact bodyPost_ret (v := .tuple #[.string ⟨#[]⟩, .int .i64 4]) (by simp [results, Tryz.results17, go_sem]) rfl ⟨rfl, Below.refl _ _⟩
  cases h2 : inB n 0 999999
  · go_enter Tryz.func17, Tryz.ntmps17
    go_wp2_with (first | (go_at_call 60; refine (isTier_any _ _).mono ?_; rintro e w' ⟨rfl, rfl⟩) | (go_at_call 61; refine (within_any _ _ _ _).mono ?_; rintro e w' ⟨rfl, rfl⟩))
    exact bodyPost_ret (v := .tuple #[.string ⟨#[]⟩, .int .i64 4]) (by simp [results, Tryz.results17, go_sem]) rfl ⟨rfl, Below.refl _ _⟩
  cases h3 : inB m 0 999999
  · go_enter Tryz.func17, Tryz.ntmps17
    go_wp2_with (first | (go_at_call 60; refine (isTier_any _ _).mono ?_; rintro e w' ⟨rfl, rfl⟩) | (go_at_call 61; refine (within_any _ _ _ _).mono ?_; rintro e w' ⟨rfl, rfl⟩))
    exact bodyPost_ret (v := .tuple #[.string ⟨#[]⟩, .int .i64 4]) (by simp [results, Tryz.results17, go_sem]) rfl ⟨rfl, Below.refl _ _⟩
  · exact absurd ⟨h1, h2, h3⟩ Hh.out

theorem dataKey_any (t n m : Int) (w : World) (ht : Pow w) (hp : Paths w) (sB : 0 < w.heap.size) : Calls Tryz.prog 17 #[.int .i64 t, .int .i64 n, .int .i64 m] w fun e w' => ∃ s cd, e = .returned (.tuple #[.string s, .int .i64 cd]) ∧ KeyOf t n m s cd ∧ Below w.heap.size w w' := by
  by_cases h : KeyNP t n m
  · have hk := h
    obtain ⟨h1, h2, h3, h4, h5, h6⟩ := h
    obtain ⟨c, rfl⟩ := Int.eq_ofNat_of_zero_le h1
    obtain ⟨a, rfl⟩ := Int.eq_ofNat_of_zero_le h3
    obtain ⟨b, rfl⟩ := Int.eq_ofNat_of_zero_le h5
    exact (dataKeyOK_any c a b (by omega) (by omega) (by omega) w ht hp sB).mono fun e w' ⟨he, hb⟩ => ⟨_, _, he, Or.inl ⟨hk, rfl, rfl⟩, hb⟩
  · exact (dataKeyNo_any t n m h w).mono fun e w' ⟨he, hb⟩ => ⟨_, _, he, Or.inr ⟨h, rfl, rfl⟩, hb⟩

end Go.Proofs.YtjmfffmjfbpgjaaGreatDoor
