/-
  Contracts of markStore and heldStore: marks are written into every object of a store, and found there.
-/
import Derived.Test.YtpgilbmajbpdkaaTo
namespace Go.Proofs.Ytpgilbmajbpdkaa
open Go.ChangeShapes Go.WideShapes Go.ChangeAt Go.RowKit
set_option linter.unusedVariables false

theorem markStore_any (A : Option Addr) (c : Nat) (next k : Int) (xs : List GObj) (B : Nat) (w : World) (h : ObjsAt w B A xs) (hf : Free w A) (hA : ∀ b, blk A = some b → b < w.heap.size) (hB : B ≤ w.heap.size) (hl : xs.length ≤ 16777216) (hk0 : 0 ≤ k) (hk : k ≤ 16777216) :
    Calls Try.prog 33 #[.agg #[.slice A xs.length c, .int .i64 next], .int .i64 k] w fun e w' => e = .returned (.int .i64 (k + 3 * xs.length)) ∧ ObjsAt w' B A (marks k xs.length) ∧ w.grownBy w' (blk A) ∧ Free w' A := by
  have H := Lib.hid h; clear h
  have Hf := Lib.hid hf; clear hf
  have HA := Lib.hid hA; clear hA
  go_enter Try.func33, Try.ntmps33
  go_wp2_with fail
  refine (markObjectS_any A c k xs B _ (Sl.below H.out (bal (Below.refl _ _) _) hB) (Hf.out.below (bal (Below.refl _ _) _) HA.out) (by simp; omega) hl hk0 hk).mono ?_
  rintro e w1 ⟨rfl, ho, hg, hf1⟩
  have hg1 : w.grownBy w1 (blk A) := grown_trans (World.grownBy_alloc w _ _) hg
  have Ho := Lib.hid ho; clear ho hg
  have Hf1 := Lib.hid hf1; clear hf1
  go_wp2
  go_ret
  exact ⟨rfl, Ho.out, hg1, Hf1.out⟩

theorem heldStore_any (A : Option Addr) (c n : Nat) (next k : Int) (B : Nat) (w : World) (h : ObjsAt w B A (marks k n)) (hB : B ≤ w.heap.size) (hl : n ≤ 16777216) (hk0 : 0 ≤ k) (hk : k ≤ 16777216) :
    Calls Try.prog 34 #[.agg #[.slice A n c, .int .i64 next], .int .i64 k] w fun e w' => e = .returned (.int .i64 (k + 3 * n)) ∧ Below w.heap.size w w' := by
  have H := Lib.hid h; clear h
  have hd : decide (k + 3 * (n : Int) < 0) = false := by simp; omega
  go_enter Try.func34, Try.ntmps34
  go_wp2_with fail
  refine (heldObjectS_any A c n k B _ (Sl.below H.out (bal (Below.refl _ _) _) hB) (by simp; omega) hl hk0 hk).mono ?_
  rintro e w1 ⟨rfl, hb1⟩
  have hb2 := bnext (bal (Below.refl _ _) _) hb1
  clear hb1
  go_wp2
  go_ret
  exact ⟨rfl, hb2⟩

theorem specNewStore_any (w : World) : Calls Try.prog 30 #[] w (NewStoreV [] 1 w) := by
  go_enter Try.func30, Try.ntmps30
  go_wp2
  refine bodyPost_ret (v := .agg #[.slice (some ⟨w.heap.size + 1, 0, none⟩) 0 0, .int .i64 1]) (by simp [results, Try.results30, go_sem]) rfl ⟨_, _, rfl, Sl.nil, ?_, ?_, Nat.le_refl _, bal (bal (Below.refl _ _) _) _⟩
  · have h := free_alloc (w.alloc (.cells #[.slice (some ⟨w.heap.size + 1, 0, none⟩) 0 0, .int .i64 1] 25)) #[] 40 0
    simpa using h
  · intro b e
    simp [blk] at e; subst e
    simp

theorem newStore_any (w : World) : Calls Try.prog 31 #[] w (NewStoreV [] 1 w) := by
  go_enter Try.func31, Try.ntmps31
  go_wp2
  exact bodyPost_ret (v := .agg #[.slice none 0 0, .int .i64 1]) (by simp [results, Try.results31, go_sem]) rfl ⟨none, 0, rfl, Sl.nil, Free.none_, fun b e => by simp [blk] at e, Nat.le_refl _, bal (Below.refl _ _) _⟩

end Go.Proofs.Ytpgilbmajbpdkaa
