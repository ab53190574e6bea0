/-
  Contracts of the model's l03Wide, l03KeyOK, l03Key and DataKey. No conditions.
-/
import Derived.Test.YtpackpocnonpiaaDoorSix
import Derived.Test.YtpackpocnonpiaaDoorAgg
namespace Go.Proofs.YtpackpocnonpiaaDoor
open Go.ChangeShapes Go.WideShapes Go.ChangeAt Go.RowKit
set_option linter.unusedVariables false
set_option linter.unusedSimpArgs false

set_option maxRecDepth 100000 in
theorem wide_any (n : Nat) (h : n ≤ 999999) (w : World) : Calls Tryd.prog 46 #[.int .i64 n, .int .i64 6] w fun e w' => e = .returned (.string (sixT n)) ∧ Below w.heap.size w w' := by
  have h6 := numT_six h
  have HW := Lib.hid (fun k => wide_six (k := k) h)
  have z0 : zT 0 ++ numT (n : Int) = numT (n : Int) := by apply ByteArray.ext; simp [ByteArray.data_append, zT]
  have Z0 := Lib.hid z0; clear z0
  go_enter Tryd.func46, Tryd.ntmps46
  go_wp2_with fail
  refine (digits_int (n : Int) w (by omega) (by omega)).mono ?_
  rintro e w1 ⟨rfl, hb1⟩
  go_wp2_with fail
  go_loopw [5] (fun t wr => ∃ k : Nat, k + (numT (n : Int)).size ≤ 6 ∧ t = .string (zT k ++ numT (n : Int)) ∧ wr = w1) (fun t _ => match t with | .string s => 6 - s.size | _ => 0)
  case atStart => exact ⟨0, by omega, by rw [Z0.out], rfl⟩
  case round =>
    obtain ⟨k, hk, rfl, rfl⟩ := hrel
    have hz : (zT k ++ numT (n : Int)).size = k + (numT (n : Int)).size := by rw [ByteArray.size_append, zT_size]
    have SC := Lib.hid (zT_succ k (numT (n : Int)))
    have hz2 : (zT (k + 1) ++ numT (n : Int)).size = k + 1 + (numT (n : Int)).size := by rw [ByteArray.size_append, zT_size]
    have HK := Lib.hid (HW.out k)
    generalize zT k ++ numT (n : Int) = X at *
    by_cases hlt : X.size < 6
    · have hd : decide ((X.size : Int) < 6) = true := by simp; omega
      have hz3 : ¬ 9223372036854775807 < 1 + X.size := by omega
      go_wp2_with fail
      refine ⟨⟨k + 1, by omega, by rw [SC.out], trivial⟩, ?_⟩
      rw [SC.out]
      show 6 - (zT (k + 1) ++ numT (n : Int)).size < 6 - X.size
      omega
    · have hd : decide ((X.size : Int) < 6) = false := by simp; omega
      have hx : X = sixT n := HK.out (by omega)
      subst hx
      go_wp2
      go_ret
      exact ⟨rfl, hb1⟩

/-- a tier and two numbers of at most six digits -/
def KeyNP (t n m : Int) : Prop := 0 ≤ t ∧ t ≤ 2 ∧ 0 ≤ n ∧ n ≤ 999999 ∧ 0 ≤ m ∧ m ≤ 999999

theorem keyP_iff (t n m : Int) : KeyNP t n m ↔ inB t 0 2 = true ∧ inB n 0 999999 = true ∧ inB m 0 999999 = true := by
  simp only [KeyNP, inB_iff]
  constructor
  · intro ⟨a, b, c, d, e, f⟩; exact ⟨⟨a, b⟩, ⟨c, d⟩, ⟨e, f⟩⟩
  · intro ⟨⟨a, b⟩, ⟨c, d⟩, ⟨e, f⟩⟩; exact ⟨a, b, c, d, e, f⟩

theorem l03KeyOK_any (t n m : Int) (w : World) : Calls Tryd.prog 37 #[.int .i64 t, .int .i64 n, .int .i64 m] w fun e w' => ∃ b : Bool, (b = true ↔ KeyNP t n m) ∧ e = .returned (.bool b) ∧ w = w' := by
  have hk := keyP_iff t n m
  cases h1 : inB t 0 2 <;> cases h2 : inB n 0 999999 <;> cases h3 : inB m 0 999999 <;> rw [h1, h2, h3] at hk
  all_goals
    have HK := Lib.hid hk; clear hk
    go_enter Tryd.func37, Tryd.ntmps37
    go_wp2_with (go_at_call 12; refine (inL_any _ _ _ _).mono ?_; rintro e w' ⟨rfl, rfl⟩)
    go_ret
    refine ⟨_, ?_, rfl, rfl⟩
    rw [HK.out]
    simp [h1, h2, h3]

/-- what stands ahead of a tier's keys, with the slash -/
def pathT (t : Nat) : ByteArray := match t with
  | 0 => ⟨#[114, 97, 119, 47]⟩
  | 1 => ⟨#[116, 49, 47]⟩
  | _ => ⟨#[116, 50, 47]⟩

/-- a data key -/
def keyT (t n m : Nat) : ByteArray := pathT t ++ sixT n ++ ⟨#[45]⟩ ++ sixT m

theorem six_new (W w1 : World) (k : Nat) (x a b c : ByteArray) (ty : TypeId) (hk : #[Value.string a, Value.string b, Value.string c][k]? = some (.string x)) (hb : Below (W.alloc (.cells #[.string a, .string b, .string c] ty)).heap.size (W.alloc (.cells #[.string a, .string b, .string c] ty)) w1) : w1.cell? ⟨W.heap.size, k, none⟩ = some (.string x) :=
  (hb.cell (p := ⟨W.heap.size, k, none⟩) (by simp)).trans (by rw [World.cell?_alloc_new]; exact hk)

theorem six_lt (W w1 : World) (o : Obj) (hb : Below (W.alloc o).heap.size (W.alloc o) w1) : W.heap.size < w1.heap.size := by
  have := hb.size
  simp at this
  omega

theorem six_newD (W w1 : World) (k : Nat) (x a b c : ByteArray) (ty : TypeId) (hk : #[Value.string a, Value.string b, Value.string c][k]? = some (.string x)) (hb : Below (W.alloc (.cells #[.string a, .string b, .string c] ty)).drew.heap.size (W.alloc (.cells #[.string a, .string b, .string c] ty)).drew w1) : w1.cell? ⟨W.heap.size, k, none⟩ = some (.string x) :=
  six_new W w1 k x a b c ty hk ((Below.refl _ _).drew.trans hb)

theorem six_ltD (W w1 : World) (o : Obj) (hb : Below (W.alloc o).drew.heap.size (W.alloc o).drew w1) : W.heap.size < w1.heap.size := six_lt W w1 o ((Below.refl _ _).drew.trans hb)

theorem six_bD (w w1 : World) (o : Obj) (hb : Below (w.alloc o).drew.heap.size (w.alloc o).drew w1) : Below w.heap.size w w1 := bnext (bal (Below.refl _ _) o) ((Below.refl _ _).drew.trans hb)

end Go.Proofs.YtpackpocnonpiaaDoor
