/-
  Contract of slices.Clone over samples. Conditions: a length.
-/
import Derived.Test.YtpfanmcjlfdaiaaSams
import Derived.Test.YtpfanmcjlfdaiaaAppG
import Derived.Lib.SliceRun
namespace Go.Proofs.Ytpfanmcjlfdaiaa
open Go.ChangeShapes Go.WideShapes Go.ChangeAt Go.RowKit
set_option linter.unusedVariables false
set_option linter.unusedSimpArgs false

theorem sam_oneC (o : GSam) : ∀ u ∈ GSam.vals o, u.oneCell' = true := by
  intro u hu
  simp [GSam.vals] at hu
  rcases hu with rfl | rfl <;> rfl

theorem cloneSam_any (A : Option Addr) (c : Nat) (xs : List GSam) (B : Nat) (w : World) (h : SamsAt w B A xs) (hB : B ≤ w.heap.size) (hl : xs.length ≤ 1048576) :
    Calls Try.prog 34 #[.slice A xs.length c] w fun e w' => ∃ (A' : Option Addr) (c' : Nat), e = .returned (.slice A' xs.length c') ∧ OwnSl GSam.vals 2 47 w.heap.size w' (.slice A' xs.length c') xs ∧ Below w.heap.size w w' := by
  cases A with
  | none =>
    obtain rfl : xs = [] := Classical.byContradiction fun hn => by obtain ⟨b, off, e, _⟩ := h hn; cases e
    clear h
    have hnil : ∀ w', (binOp .eql 22 (.slice none 0 c) (.slice none 0 0)).run Try.prog w' = .ok (.bool true) w' := fun w' => Go.Lib.run_eql_slice_nil w' _ _ _ _ _ _ _ Try.underlying22
    go_enter Try.func34, Try.ntmps34
    go_wp2
    go_ret
    exact ⟨none, 0, rfl, ⟨rfl, .inl ⟨rfl, rfl⟩⟩, Below.refl _ _⟩
  | some a =>
    have H := Lib.hid h; clear h
    obtain ⟨W, hW⟩ : ∃ W, W = w.alloc (.cells #[] 47) := ⟨_, rfl⟩
    have O0 : Hid (OwnSl GSam.vals 2 47 w.heap.size W (.slice (some ⟨w.heap.size, 0, none⟩) 0 0) []) := Lib.hid (by rw [hW]; exact own_empty GSam.vals 2 47 w)
    have b0 : Below w.heap.size w W := by rw [hW]; exact bal (Below.refl _ _) _
    have s0 : W.heap.size = w.heap.size + 1 := by rw [hW]; simp
    have HW := Lib.hid hW; clear hW
    have hnil : ∀ w', (binOp .eql 22 (.slice (some a) xs.length c) (.slice none 0 0)).run Try.prog w' = .ok (.bool false) w' := fun w' => Go.Lib.run_eql_slice_nil w' _ _ _ _ _ _ _ Try.underlying22
    go_enter Try.func34, Try.ntmps34
    go_wp2_with (at_builtin; rw [← HW.out]; refine wpList_append_sl GSam.vals 2 16 (fun _ => rfl) sam_oneC 22 47 _ infoSam rfl (by omega) Try.underlying22 rfl _ _ rfl w.heap.size [] xs (.slice (some ⟨w.heap.size, 0, none⟩) 0 0) rfl O0.out (some a) c B rfl (Sl.below H.out b0 hB) (by simp [maxLen]; omega) (by simp; omega) (by omega) ?_; intro v' w1 hO hg _; rw [List.nil_append] at hO; obtain ⟨A1, k1, rfl⟩ := hO.form; have HO := Lib.hid hO; clear hO; have hb1 : Below w.heap.size W w1 := below_of_grown hg (by omega) (fun g e => (World.ownsRow.lt O0.out g e).1); clear hg)
    go_ret
    exact ⟨A1, k1, rfl, HO.out, b0.trans hb1⟩

end Go.Proofs.Ytpfanmcjlfdaiaa
