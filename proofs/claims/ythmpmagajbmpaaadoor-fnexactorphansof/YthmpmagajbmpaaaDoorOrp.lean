/-
  What an orphan is; a look-up in a set of texts. No Go text is walked here.
-/
import Derived.Test.YthmpmagajbmpaaaDoorDue
import Derived.Test.YthmpmagajbmpaaaDoorRdKey
import Derived.Test.YthmpmagajbmpaaaDoorIntSet
namespace Go.Proofs.YthmpmagajbmpaaaDoor
open Go.ChangeShapes Go.WideShapes Go.ChangeAt Go.RowKit Go.Deep Go.Joins Go.Maps
set_option linter.unusedVariables false
set_option linter.unusedSimpArgs false

theorem TxtSet.look {w : World} {b : Nat} {ks : List ByteArray} (h : TxtSet w b ks) {k : ByteArray} (hk : k.size ≤ 2 ^ 63 - 1) :
    (Instr.lookup 82 (.map (some b)) (.string k) false).run Tryd.prog w = .ok (.bool (memB k ks)) w := by
  obtain ⟨D, hown, hat, _⟩ := h
  obtain ⟨u, ps, hrun, hu⟩ := hown.lookup txtKeyed Tryd.underlying82 (zeroBoolK w) (plainElem_bool Tryd.underlying4 false) (WideMaps.keyOf_string_mk Tryd.underlying9 hk)
  obtain ⟨x, rfl, hx⟩ := plainElem_bool_inv Tryd.underlying4 hu
  have := hat k
  unfold klt at this
  rw [this] at hx
  simp only [Prod.mk.injEq, DataW.lit.injEq, Lit.bool.injEq] at hx
  rw [hrun, hx.1]

/-- a data key that the log adds no more -/
def PastP (s : GSt) (key : ByteArray) : Prop := ∃ t n m, IsKey key t n m ∧ ((t = 0 ∧ n ≤ s.sq) ∨ (t ≠ 0 ∧ m < s.fe))

theorem past_iff {s : GSt} {key : ByteArray} {t n m : Int} (h : IsKey key t n m) : PastP s key ↔ ((t = 0 ∧ n ≤ s.sq) ∨ (t ≠ 0 ∧ m < s.fe)) := by
  constructor
  · rintro ⟨t', n', m', h', k⟩
    obtain ⟨rfl, rfl, rfl⟩ := isKey_one h h'
    exact k
  · exact fun k => ⟨t, n, m, h, k⟩

theorem past_no {s : GSt} {key : ByteArray} (h : ∀ t n m, ¬ IsKey key t n m) : ¬ PastP s key := fun ⟨t, n, m, k, _⟩ => h t n m k

def keysAll (s : GSt) : List ByteArray := keysR s.ents s.tmbs s.ents.length s.tmbs.length

def OrphP (s : GSt) (key : ByteArray) : Prop := key ∉ keysAll s ∧ PastP s key

open Classical in
noncomputable def orphB (s : GSt) (key : ByteArray) : Bool := decide (OrphP s key)

theorem orphB_iff {s : GSt} {key : ByteArray} : orphB s key = true ↔ OrphP s key := by unfold orphB; simp

/-- the orphans among the first n -/
noncomputable def orphs (s : GSt) (ks : List ByteArray) (n : Nat) : List ByteArray := (ks.take n).filter (orphB s)

theorem orphs_zero (s : GSt) (ks : List ByteArray) : orphs s ks 0 = [] := by simp [orphs]

theorem orphs_all (s : GSt) (ks : List ByteArray) {n : Nat} (h : ks.length ≤ n) : orphs s ks n = ks.filter (orphB s) := by unfold orphs; rw [List.take_of_length_le h]

theorem orphs_yes {s : GSt} {ks : List ByteArray} {n : Nat} (h : n < ks.length) (h1 : orphB s ks[n] = true) : orphs s ks (n + 1) = orphs s ks n ++ [ks[n]] := by
  unfold orphs
  rw [List.take_succ_eq_append_getElem h, List.filter_append]
  simp [h1]

theorem orphs_no {s : GSt} {ks : List ByteArray} {n : Nat} (h : n < ks.length) (h1 : orphB s ks[n] = false) : orphs s ks (n + 1) = orphs s ks n := by
  unfold orphs
  rw [List.take_succ_eq_append_getElem h, List.filter_append]
  simp [h1]

theorem orphs_len (s : GSt) (ks : List ByteArray) (n : Nat) : (orphs s ks n).length ≤ n := by
  unfold orphs
  exact Nat.le_trans (List.length_filter_le _ _) (by rw [List.length_take]; omega)

/-- what both answer -/
def OrphVal (s : GSt) (ks : List ByteArray) (L : List ByteArray) (z : Int) : Prop :=
  (4096 < ks.length ∧ L = [] ∧ z = 2) ∨ (ks.length ≤ 4096 ∧ ¬ StP s ∧ L = [] ∧ z = 1) ∨ (ks.length ≤ 4096 ∧ StP s ∧ L = ks.filter (orphB s) ∧ z = 0)

theorem OrphVal.one {s : GSt} {ks L L' : List ByteArray} {z z' : Int} (h : OrphVal s ks L z) (h' : OrphVal s ks L' z') : L' = L ∧ z' = z := by
  rcases h with ⟨h0, rfl, rfl⟩ | ⟨h0, h1, rfl, rfl⟩ | ⟨h0, h1, rfl, rfl⟩ <;> rcases h' with ⟨k0, rfl, rfl⟩ | ⟨k0, k1, rfl, rfl⟩ | ⟨k0, k1, rfl, rfl⟩
  all_goals first | exact ⟨rfl, rfl⟩ | (exfalso; omega) | exact absurd h1 k1 | exact absurd k1 h1

theorem OrphVal.len {s : GSt} {ks L : List ByteArray} {z : Int} (h : OrphVal s ks L z) : L.length ≤ 4096 := by
  rcases h with ⟨_, rfl, _⟩ | ⟨_, _, rfl, _⟩ | ⟨h, _, rfl, _⟩
  · simp
  · simp
  · exact Nat.le_trans (List.length_filter_le _ _) h

end Go.Proofs.YthmpmagajbmpaaaDoor
