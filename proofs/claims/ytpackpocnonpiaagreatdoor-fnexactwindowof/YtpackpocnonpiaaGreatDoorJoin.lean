/-
  Contract of the model's l00Join: the texts one after another, with a text between each two. Conditions: lengths within an int.
-/
import Derived.Test.YtpackpocnonpiaaGreatDoorDigitsInt
import Derived.Lib.Join
import Derived.Lib.Hide
import Derived.BigQuiet
namespace Go.Proofs.YtpackpocnonpiaaGreatDoor
open Go.ChangeShapes Go.WideShapes Go.ChangeAt Go.RowKit
set_option linter.unusedVariables false

/-- texts with one between each two -/
def joinT (xs : List ByteArray) (sep : ByteArray) : ByteArray := ⟨(Lib.join (xs.map (·.data.toList)) sep.data.toList).toArray⟩

theorem joinT_nil (sep : ByteArray) : joinT [] sep = ⟨#[]⟩ := rfl

theorem joinT_first (xs : List ByteArray) (sep : ByteArray) (h : 0 < xs.length) : joinT (xs.take 1) sep = xs[0] := by
  match xs, h with
  | x :: r, _ => simp [joinT, Lib.join_one]

theorem joinT_next (xs : List ByteArray) (sep : ByteArray) (k : Nat) (h1 : 0 < k) (h : k < xs.length) : joinT (xs.take (k + 1)) sep = joinT (xs.take k) sep ++ sep ++ xs[k] := by
  match xs, k, h1 with
  | x :: r, k + 1, _ =>
    simp only [List.length_cons] at h
    have hk : (r.map (·.data.toList))[k]? = some (r[k]'(by omega)).data.toList := by simp [List.getElem?_eq_getElem (show k < r.length by omega)]
    unfold joinT
    rw [List.take_succ_cons, List.take_succ_cons, List.map_cons, List.map_cons, Lib.join_cons, Lib.join_cons, List.map_take, List.map_take, Lib.joinTail_take_succ _ _ _ _ hk]
    apply ByteArray.ext
    simp [ByteArray.data_append]

theorem joinT_le (xs : List ByteArray) (sep : ByteArray) (k : Nat) : (joinT (xs.take k) sep).size ≤ (joinT xs sep).size := by
  match xs, k with
  | [], k => simp
  | x :: r, 0 => simp [joinT, Lib.join_nil, ByteArray.size]
  | x :: r, k + 1 =>
    unfold joinT
    rw [List.take_succ_cons, List.map_cons, List.map_cons, Lib.join_cons, Lib.join_cons, List.map_take]
    have := Lib.joinTail_take_le sep.data.toList (r.map (·.data.toList)) k
    show (List.toArray _).size ≤ (List.toArray _).size
    rw [List.size_toArray, List.size_toArray, List.length_append, List.length_append]
    omega

set_option maxRecDepth 100000 in
theorem join_any (b o c : Nat) (xs : List ByteArray) (sep : ByteArray) (w : World) (hc : ∀ (j : Nat) (h : j < xs.length), w.cell? ⟨b, o + j, none⟩ = some (.string xs[j])) (hb : b < w.heap.size) (hl : xs.length ≤ 4611686018427387904) (hs : (joinT xs sep).size ≤ 4611686018427387904) : Calls Tryz.prog 179 #[.slice (some ⟨b, o, none⟩) xs.length c, .string sep] w fun e w' => e = .returned (.string (joinT xs sep)) ∧ Below w.heap.size w w' := by
  have Hc := Lib.hid hc; clear hc
  go_enter Tryz.func179, Tryz.ntmps179
  go_wp2_with fail
  go_loopw [5, 6] (fun t i wr => ∃ k : Nat, k ≤ xs.length ∧ i = .int .i64 k ∧ t = .string (joinT (xs.take k) sep) ∧ Below w.heap.size w wr) (fun _ i _ => xs.length - (intOf i).toNat)
  case atStart => exact ⟨0, by omega, rfl, rfl, Below.refl _ _⟩
  case round =>
    obtain ⟨k, hk, rfl, rfl, hbw⟩ := hrel
    by_cases hlt : k < xs.length
    · have p0 : wr.cell? ⟨b, o + k, none⟩ = some (.string xs[k]) := (hbw.cell (p := ⟨b, o + k, none⟩) hb).trans (Hc.out k hlt)
      have hle := joinT_le xs sep (k + 1)
      by_cases h0 : k = 0
      · subst h0
        have e := Lib.hid (joinT_first xs sep hlt)
        rw [e.out] at hle
        have ez := Lib.hid (joinT_nil sep)
        rw [List.take_zero, ez.out]
        have hz : (xs[0]).size ≤ 4611686018427387904 := by omega
        clear hle
        generalize xs[0] = X at *
        have ea : (⟨#[]⟩ : ByteArray) ++ X = X := ByteArray.ext (by simp [ByteArray.data_append])
        have p1 : wr.cell? ⟨b, o, none⟩ = some (.string X) := p0
        go_wp2_with fail
        exact ⟨⟨1, by omega, by go_num, by first | rw [e.out] | (rw [e.out]; simp [ea]) , hbw⟩, by simp [intOf]; omega⟩
      · have hd : decide (0 < (k : Int)) = true := by simp; omega
        have e := Lib.hid (joinT_next xs sep k (by omega) hlt)
        rw [e.out] at hle
        have hz : (joinT (xs.take k) sep).size + sep.size + (xs[k]).size ≤ 4611686018427387904 := by simp only [ByteArray.size_append] at hle; omega
        clear hle
        generalize xs[k] = X at *
        generalize joinT (xs.take k) sep = Y at *
        go_wp2_with fail
        exact ⟨⟨k + 1, by omega, by go_num, by rw [e.out], hbw⟩, by simp [intOf]; omega⟩
    · obtain rfl : k = xs.length := by omega
      have hd : decide ((xs.length : Int) < (xs.length : Int)) = false := by simp
      rw [List.take_length]
      go_wp2
      go_ret
      exact ⟨rfl, hbw⟩

end Go.Proofs.YtpackpocnonpiaaGreatDoor
