/-
  Contract of the model's l00Join: the texts one after another, with a text between each two. Conditions: lengths within an int.
-/
import Derived.Test.YtpackpocnonpiaaDoorDigitsInt
import Derived.Lib.Join
import Derived.Lib.Hide
import Derived.BigQuiet
namespace Go.Proofs.YtpackpocnonpiaaDoor
open Go.ChangeShapes Go.WideShapes Go.ChangeAt Go.RowKit
set_option linter.unusedVariables false

/-- texts with one between each two -/
def joinT (xs : List ByteArray) (sep : ByteArray) : ByteArray := ⟨(Lib.join (xs.map (·.data.toList)) sep.data.toList).toArray⟩

theorem joinT_nil (sep : ByteArray) : joinT [] sep = ⟨#[]⟩ := rfl

theorem joinT_first (xs : List ByteArray) (sep : ByteArray) (h : 0 < xs.length) : joinT (xs.take 1) sep = xs[0] := by
  match xs, h with
  | x :: r, _ => simp [joinT, Lib.join_one]

theorem joinT_next (xs : List ByteArray) (sep : ByteArray) (k : Nat) (h1 : 0 < k) (h : k < xs.length) : joinT (xs.take (k + 1)) sep = joinT (xs.take k) sep ++ sep ++ xs[k] := by
  match xs, k, h1 with
  | x :: r, k + 1, _ =>
    simp only [List.length_cons] at h
    have hk : (r.map (·.data.toList))[k]? = some (r[k]'(by omega)).data.toList := by simp [List.getElem?_eq_getElem (show k < r.length by omega)]
    unfold joinT
    rw [List.take_succ_cons, List.take_succ_cons, List.map_cons, List.map_cons, Lib.join_cons, Lib.join_cons, List.map_take, List.map_take, Lib.joinTail_take_succ _ _ _ _ hk]
    apply ByteArray.ext
    simp [ByteArray.data_append]

theorem joinT_le (xs : List ByteArray) (sep : ByteArray) (k : Nat) : (joinT (xs.take k) sep).size ≤ (joinT xs sep).size := by
  match xs, k with
  | [], k => simp
  | x :: r, 0 => simp [joinT, Lib.join_nil, ByteArray.size]
  | x :: r, k + 1 =>
    unfold joinT
    rw [List.take_succ_cons, List.map_cons, List.map_cons, Lib.join_cons, Lib.join_cons, List.map_take]
    have := Lib.joinTail_take_le sep.data.toList (r.map (·.data.toList)) k
    show (List.toArray _).size ≤ (List.toArray _).size
    rw [List.size_toArray, List.size_toArray, List.length_append, List.length_append]
    omega

end Go.Proofs.YtpackpocnonpiaaDoor
