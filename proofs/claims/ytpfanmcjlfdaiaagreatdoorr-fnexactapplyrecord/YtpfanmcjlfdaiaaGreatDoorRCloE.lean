/-
  Contracts of slices.Clone over entries and over tombs. Conditions: lengths.
-/
import Derived.Test.YtpfanmcjlfdaiaaGreatDoorRN4
import Derived.Test.YtpfanmcjlfdaiaaGreatDoorRAppG
import Derived.Lib.SliceRun
namespace Go.Proofs.YtpfanmcjlfdaiaaGreatDoorR
open Go.ChangeShapes Go.WideShapes Go.ChangeAt Go.RowKit
set_option linter.unusedVariables false
set_option linter.unusedSimpArgs false

theorem ent_oneC (o : GEnt) : ∀ u ∈ GEnt.vals o, u.oneCell' = true := by
  intro u hu
  simp [GEnt.vals] at hu
  rcases hu with rfl | rfl | rfl | rfl <;> rfl

theorem tmb_oneC (o : GTmb) : ∀ u ∈ GTmb.vals o, u.oneCell' = true := by
  intro u hu
  simp [GTmb.vals] at hu
  rcases hu with rfl | rfl <;> rfl

theorem cloneEnt_any (A : Option Addr) (c : Nat) (xs : List GEnt) (B : Nat) (w : World) (h : EntsAt w B A xs) (hB : B ≤ w.heap.size) (hl : xs.length ≤ 1048576) :
    Calls Tryz.prog 67 #[.slice A xs.length c] w fun e w' => ∃ (A' : Option Addr) (c' : Nat), e = .returned (.slice A' xs.length c') ∧ OwnSl GEnt.vals 4 103 w.heap.size w' (.slice A' xs.length c') xs ∧ Below w.heap.size w w' := by
  cases A with
  | none =>
    obtain rfl : xs = [] := Classical.byContradiction fun hn => by obtain ⟨b, off, e, _⟩ := h hn; cases e
    clear h
    have hnil : ∀ w', (binOp .eql 31 (.slice none 0 c) (.slice none 0 0)).run Tryz.prog w' = .ok (.bool true) w' := fun w' => Go.Lib.run_eql_slice_nil w' _ _ _ _ _ _ _ Tryz.underlying31
    go_enter Tryz.func67, Tryz.ntmps67
    go_wp2
    go_ret
    exact ⟨none, 0, rfl, ⟨rfl, .inl ⟨rfl, rfl⟩⟩, Below.refl _ _⟩
  | some a =>
    have H := Lib.hid h; clear h
    obtain ⟨W, hW⟩ : ∃ W, W = w.alloc (.cells #[] 103) := ⟨_, rfl⟩
    have O0 : Hid (OwnSl GEnt.vals 4 103 w.heap.size W (.slice (some ⟨w.heap.size, 0, none⟩) 0 0) []) := Lib.hid (by rw [hW]; exact own_empty GEnt.vals 4 103 w)
    have b0 : Below w.heap.size w W := by rw [hW]; exact bal (Below.refl _ _) _
    have s0 : W.heap.size = w.heap.size + 1 := by rw [hW]; simp
    have HW := Lib.hid hW; clear hW
    have hnil : ∀ w', (binOp .eql 31 (.slice (some a) xs.length c) (.slice none 0 0)).run Tryz.prog w' = .ok (.bool false) w' := fun w' => Go.Lib.run_eql_slice_nil w' _ _ _ _ _ _ _ Tryz.underlying31
    go_enter Tryz.func67, Tryz.ntmps67
    go_wp2_with (at_builtin; rw [← HW.out]; refine wpList_append_sl GEnt.vals 4 40 (fun _ => rfl) ent_oneC 31 103 _ infoEnt rfl (by omega) Tryz.underlying31 rfl _ _ rfl w.heap.size [] xs (.slice (some ⟨w.heap.size, 0, none⟩) 0 0) rfl O0.out (some a) c B rfl (Sl.below H.out b0 hB) (by simp [maxLen]; omega) (by simp; omega) (by omega) ?_; intro v' w1 hO hg _; rw [List.nil_append] at hO; obtain ⟨A1, k1, rfl⟩ := hO.form; have HO := Lib.hid hO; clear hO; have hb1 : Below w.heap.size W w1 := below_of_grown hg (by omega) (fun g e => (World.ownsRow.lt O0.out g e).1); clear hg)
    go_ret
    exact ⟨A1, k1, rfl, HO.out, b0.trans hb1⟩

theorem cloneTmb_any (A : Option Addr) (c : Nat) (xs : List GTmb) (B : Nat) (w : World) (h : TmbsAt w B A xs) (hB : B ≤ w.heap.size) (hl : xs.length ≤ 1048576) :
    Calls Tryz.prog 68 #[.slice A xs.length c] w fun e w' => ∃ (A' : Option Addr) (c' : Nat), e = .returned (.slice A' xs.length c') ∧ OwnSl GTmb.vals 2 108 w.heap.size w' (.slice A' xs.length c') xs ∧ Below w.heap.size w w' := by
  cases A with
  | none =>
    obtain rfl : xs = [] := Classical.byContradiction fun hn => by obtain ⟨b, off, e, _⟩ := h hn; cases e
    clear h
    have hnil : ∀ w', (binOp .eql 32 (.slice none 0 c) (.slice none 0 0)).run Tryz.prog w' = .ok (.bool true) w' := fun w' => Go.Lib.run_eql_slice_nil w' _ _ _ _ _ _ _ Tryz.underlying32
    go_enter Tryz.func68, Tryz.ntmps68
    go_wp2
    go_ret
    exact ⟨none, 0, rfl, ⟨rfl, .inl ⟨rfl, rfl⟩⟩, Below.refl _ _⟩
  | some a =>
    have H := Lib.hid h; clear h
    obtain ⟨W, hW⟩ : ∃ W, W = w.alloc (.cells #[] 108) := ⟨_, rfl⟩
    have O0 : Hid (OwnSl GTmb.vals 2 108 w.heap.size W (.slice (some ⟨w.heap.size, 0, none⟩) 0 0) []) := Lib.hid (by rw [hW]; exact own_empty GTmb.vals 2 108 w)
    have b0 : Below w.heap.size w W := by rw [hW]; exact bal (Below.refl _ _) _
    have s0 : W.heap.size = w.heap.size + 1 := by rw [hW]; simp
    have HW := Lib.hid hW; clear hW
    have hnil : ∀ w', (binOp .eql 32 (.slice (some a) xs.length c) (.slice none 0 0)).run Tryz.prog w' = .ok (.bool false) w' := fun w' => Go.Lib.run_eql_slice_nil w' _ _ _ _ _ _ _ Tryz.underlying32
    go_enter Tryz.func68, Tryz.ntmps68
    go_wp2_with (at_builtin; rw [← HW.out]; refine wpList_append_sl GTmb.vals 2 24 (fun _ => rfl) tmb_oneC 32 108 _ infoTmb rfl (by omega) Tryz.underlying32 rfl _ _ rfl w.heap.size [] xs (.slice (some ⟨w.heap.size, 0, none⟩) 0 0) rfl O0.out (some a) c B rfl (Sl.below H.out b0 hB) (by simp [maxLen]; omega) (by simp; omega) (by omega) ?_; intro v' w1 hO hg _; rw [List.nil_append] at hO; obtain ⟨A1, k1, rfl⟩ := hO.form; have HO := Lib.hid hO; clear hO; have hb1 : Below w.heap.size W w1 := below_of_grown hg (by omega) (fun g e => (World.ownsRow.lt O0.out g e).1); clear hg)
    go_ret
    exact ⟨A1, k1, rfl, HO.out, b0.trans hb1⟩

end Go.Proofs.YtpfanmcjlfdaiaaGreatDoorR
