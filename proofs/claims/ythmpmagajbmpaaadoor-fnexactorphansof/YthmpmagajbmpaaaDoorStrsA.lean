/-
  Contracts of the laws' helpers on lists of texts that are handed in: their size, a copy of their own. Conditions: bounds of lengths.
-/
import Derived.Test.YthmpmagajbmpaaaDoorStrs
import Derived.Test.YthmpmagajbmpaaaDoorConv
import Derived.Test.YthmpmagajbmpaaaDoorPuts
import Derived.Test.YthmpmagajbmpaaaDoorAggLaw
namespace Go.Proofs.YthmpmagajbmpaaaDoor
open Go.ChangeShapes Go.WideShapes Go.ChangeAt Go.RowKit Go.Deep Go.Joins
set_option linter.unusedVariables false
set_option linter.unusedSimpArgs false

set_option maxRecDepth 100000 in
theorem szStringS_any (A : Option Addr) (c : Nat) (xs : List ByteArray) (left : Int) (B : Nat) (w : World) (h : StrsAt w B A xs) (hf : ∀ o ∈ xs, o.size ≤ maxLen) (hl : xs.length ≤ maxLen) (h0 : 0 ≤ left) (h1 : left ≤ 1048576) :
    Calls Tryd.prog 22 #[.slice A xs.length c, .int .i64 left] w (Left (xs.length ≤ 1048576 ∧ ∀ o ∈ xs, o.size ≤ 1048576) left w) := by
  unfold maxLen at hl
  have H := Lib.hid h; clear h
  have Hf := Lib.hid hf; clear hf
  by_cases c1 : left - (xs.length : Int) < 0
  · have d1 : decide (left - (xs.length : Int) < 0) = true := by simpa using c1
    go_enter Tryd.func22, Tryd.ntmps22
    go_wp2
    go_ret
    exact ⟨-1, fun h => by omega, by omega, by omega, rfl, Below.refl _ _⟩
  · have d1 : decide (left - (xs.length : Int) < 0) = false := by simpa using c1
    go_enter Tryd.func22, Tryd.ntmps22
    go_wp2_with fail
    go_loopw [1, 5] (fun t i wr => ∃ (j : Nat) (v : Int), j ≤ xs.length ∧ i = .int .i64 j ∧ t = .int .i64 v ∧ 0 ≤ v ∧ v ≤ left ∧ Hid (∀ o ∈ xs.take j, o.size ≤ 1048576) ∧ wr = w) (fun _ i _ => xs.length - (intOf i).toNat)
    case atStart => exact ⟨0, _, by omega, rfl, rfl, by omega, by omega, Lib.hid (by simp), rfl⟩
    case round =>
      obtain ⟨j, v, hj, rfl, rfl, hv0, hv1, Hs, rfl⟩ := hrel
      by_cases hlt : j < xs.length
      · obtain ⟨b, off, rfl, hbB, p0⟩ := H.out.at_ hlt
        have hfit : xs[j].size ≤ maxLen := Hf.out _ (List.getElem_mem hlt)
        unfold maxLen at hfit
        have HT := Lib.hid (List.take_succ_eq_append_getElem hlt)
        generalize xs[j] = s at *
        have i1 : (0 : Int) ≤ (j : Int) := by omega
        have i2 : (j : Int) < (xs.length : Int) := by omega
        by_cases c2 : v - (s.size : Int) < 0
        · have d2 : decide (v - (s.size : Int) < 0) = true := by simpa using c2
          go_wp2
          go_ret
          exact ⟨-1, fun h => by omega, by omega, by omega, rfl, Below.refl _ _⟩
        · have d2 : decide (v - (s.size : Int) < 0) = false := by simpa using c2
          have hn : ∀ o ∈ xs.take (j + 1), o.size ≤ 1048576 := by
            rw [HT.out]
            intro o ho
            rcases List.mem_append.1 ho with ho | ho
            · exact Hs.out o ho
            · simp at ho; subst ho; omega
          have Hn := Lib.hid hn; clear hn
          go_wp2
          go_roundw
          case rel => exact ⟨j + 1, v - (s.size : Int), by omega, by go_num, by go_num, by omega, by omega, Hn, by first | rfl | trivial⟩
          case measure => simp [intOf]; omega
      · have hn : ∀ o ∈ xs, o.size ≤ 1048576 := by have := Hs.out; rwa [List.take_of_length_le (by omega)] at this
        have Hn := Lib.hid hn; clear hn
        go_wp2
        go_ret
        exact ⟨v, fun h => ⟨⟨by omega, Hn.out⟩, by omega⟩, by omega, by omega, rfl, Below.refl _ _⟩

theorem infoTxs : (Tryd.prog.info? 9).map (fun i => (i.zero, i.size, i.bytes)) = some (some (.string ⟨#[]⟩), 1, 16) := by kernel_rfl

def zeroTxs (n : Nat) : Obj := .cells (madeCells #[.string ⟨#[]⟩] (n * 1)) 9

theorem make_txs (n : Nat) (hn : n ≤ 1048576) (W : World) : (Instr.makeSlice 49 (.int .i64 (n : Int)) (.int .i64 (n : Int))).run Tryd.prog W = .ok (.slice (some ⟨W.heap.size, 0, none⟩) n n) (W.alloc (zeroTxs n)) :=
  run_make_n (P := Tryd.prog) 49 9 _ 1 16 infoTxs Tryd.underlying49 n n (Nat.le_refl _) (by omega) (by omega) W

theorem zeroTxs_sl (n : Nat) (w : World) : StrsAt (w.alloc (zeroTxs n)) (w.heap.size + 1) (some ⟨w.heap.size, 0, none⟩) (List.replicate n ⟨#[]⟩) :=
  made_sl sVals ⟨#[]⟩ 1 n 9 w _ rfl rfl

/-- a slice of texts is answered, in new memory of its own -/
def NewTxts (xs : List ByteArray) (w : World) (e : Ending) (w' : World) : Prop :=
  ∃ (A : Option Addr) (c : Nat), e = .returned (.slice A xs.length c) ∧ StrsAt w' w'.heap.size A xs ∧ Free w' A ∧ (∀ b, blk A = some b → w.heap.size ≤ b ∧ b < w'.heap.size) ∧ xs.length ≤ c ∧ Below w.heap.size w w'

set_option maxRecDepth 100000 in
theorem toStringS_any (A : Option Addr) (c : Nat) (xs : List ByteArray) (B : Nat) (w : World) (h : StrsAt w B A xs) (hB : B ≤ w.heap.size) (hl : xs.length ≤ 1048576) :
    Calls Tryd.prog 24 #[.slice A xs.length c] w (NewTxts xs w) := by
  have H := Lib.hid h; clear h
  have hmk := make_txs xs.length hl
  go_enter Tryd.func24, Tryd.ntmps24
  go_wp2_with fail
  have hsl := zeroTxs_sl xs.length w
  have hfr : Free (w.alloc (zeroTxs xs.length)) (some ⟨w.heap.size, 0, none⟩) := free_alloc _ _ _ _
  have hbw : Below w.heap.size w (w.alloc (zeroTxs xs.length)) := bal (Below.refl _ _) _
  have hsz : w.heap.size < (w.alloc (zeroTxs xs.length)).heap.size := by simp
  generalize w.alloc (zeroTxs xs.length) = w0 at hsl hfr hbw hsz ⊢
  clear hmk
  have Hsl := Lib.hid hsl; clear hsl
  have Hfr := Lib.hid hfr; clear hfr
  go_loopw [4] (fun i wr => ∃ j : Nat, j ≤ xs.length ∧ i = .int .i64 j ∧ Hid (StrsAt wr (w.heap.size + 1) (some ⟨w.heap.size, 0, none⟩) (xs.take j ++ (List.replicate xs.length ⟨#[]⟩).drop j)) ∧ Hid (Free wr (some ⟨w.heap.size, 0, none⟩)) ∧ w.heap.size < wr.heap.size ∧ Below w.heap.size w wr) (fun i _ => xs.length - (intOf i).toNat)
  case atStart => exact ⟨0, by omega, rfl, Lib.hid (by simpa using Hsl.out), Hfr, hsz, hbw⟩
  case round =>
    clear Hsl Hfr hbw hsz
    obtain ⟨j, hj, rfl, Hr, Hf, hs, hb⟩ := hrel
    by_cases hlt : j < xs.length
    · obtain ⟨b, off, rfl, hbB, p0⟩ := StrsAt.at_ (Sl.below H.out hb hB) hlt
      have hjl : j < (xs.take j ++ (List.replicate xs.length (⟨#[]⟩ : ByteArray)).drop j).length := by simp; omega
      obtain ⟨g, o, e, hgB, q0⟩ := Hr.out.at_ hjl
      injection e with e
      injection e with e1 e2
      subst e1 e2
      obtain ⟨v0, q0⟩ : ∃ v, wr.cell? ⟨w.heap.size, 0 + j, none⟩ = some v := ⟨_, q0⟩
      have fz : ∀ i, wr.frozen? ⟨w.heap.size, i, none⟩ = false := Hf.out _ rfl
      have f0 : wr.frozen? ⟨w.heap.size, j, none⟩ = false := fz _
      rw [Nat.zero_add] at q0
      have hn := Sl.puts (w1 := wr) Hr.out (fun x => rfl) hjl (fun i => rfl) xs[j]
      rw [take_set xs _ j hlt (by simpa using hlt)] at hn
      have hfn : Free (puts wr w.heap.size (j * 1) (sVals xs[j])) (some ⟨w.heap.size, 0, none⟩) := Free.puts _ (fun i => fz i)
      have hsn : w.heap.size < (puts wr w.heap.size (j * 1) (sVals xs[j])).heap.size := by rw [puts_size]; exact hs
      have hbn : Below w.heap.size w (puts wr w.heap.size (j * 1) (sVals xs[j])) := puts_below _ (Nat.le_refl _) _ _ _ hb
      rw [Nat.mul_one] at hn hfn hsn hbn
      have Hn := Lib.hid hn; clear hn
      have Hfn := Lib.hid hfn; clear hfn
      have Hsn := Lib.hid hsn; clear hsn
      have Hbn := Lib.hid hbn; clear hbn
      have i1 : (0 : Int) ≤ (j : Int) := by omega
      have i2 : (j : Int) < (xs.length : Int) := by omega
      go_wp2
      go_roundw
      case rel => exact ⟨j + 1, by omega, by go_num, Hn, Hfn, Hsn.out, Hbn.out⟩
      case measure => simp [intOf]; omega
    · obtain rfl : j = xs.length := by omega
      have hn : StrsAt wr (w.heap.size + 1) (some ⟨w.heap.size, 0, none⟩) xs := by simpa using Hr.out
      have Hn := Lib.hid hn; clear hn
      go_wp2
      go_ret
      exact ⟨_, _, rfl, Sl.more Hn.out hs, Hf.out, fun b e => by simp [blk] at e; subst e; exact ⟨Nat.le_refl _, hs⟩, Nat.le_refl _, hb⟩

end Go.Proofs.YthmpmagajbmpaaaDoor
