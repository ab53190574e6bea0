/-
  Contracts of impl.numbersText (numbers with commas between) and impl.AggText. Conditions: the library's table of powers of ten is as its text lays it.
-/
import Derived.Test.YtpackpocnonpiaaGreatDoorTxt
import Derived.Test.YtpackpocnonpiaaGreatDoorAggB
namespace Go.Proofs.YtpackpocnonpiaaGreatDoor
open Go.ChangeShapes Go.WideShapes Go.ChangeAt Go.RowKit
set_option linter.unusedVariables false

/-- the six numbers of an aggregate -/
def GAgg.nums (a : GAgg) : List Int := [a.cnt, a.sum, a.mn, a.mx, a.fst, a.lst]

/-- the text of an aggregate, or why there is none -/
def TextOf (a : GAgg) (s : ByteArray) (cd : Int) : Prop := (AggP a ∧ s = joinT (a.nums.map numT) ⟨#[44]⟩ ∧ cd = 0) ∨ (¬ AggP a ∧ s = ⟨#[]⟩ ∧ cd = 1)

def comma : ByteArray := ⟨#[44]⟩

theorem comma_size : comma.size = 1 := rfl

set_option maxRecDepth 100000 in
theorem numbersText_any (b o c : Nat) (ns : List Int) (w : World) (hc : ∀ (j : Nat) (h : j < ns.length), w.cell? ⟨b, o + j, none⟩ = some (.int .i64 ns[j])) (hb : b < w.heap.size) (hl : ns.length ≤ 1000) (hf : ∀ n ∈ ns, I64 n) (ht : Pow w) :
    Calls Tryz.prog 74 #[.slice (some ⟨b, o, none⟩) ns.length c] w fun e w' => e = .returned (.string (joinT (ns.map numT) comma)) ∧ Below w.heap.size w w' := by
  have Hc := Lib.hid hc; clear hc
  have Ht := Lib.hid ht; clear ht
  have Hf := Lib.hid hf; clear hf
  have hmk := make_txts ns.length (by omega)
  go_enter Tryz.func74, Tryz.ntmps74
  go_wp2_with fail
  have hsl := zeroTxts_sl ns.length w
  have hfr : Free (w.alloc (zeroTxts ns.length)) (some ⟨w.heap.size, 0, none⟩) := free_alloc _ _ _ _
  have hbw : Below w.heap.size w (w.alloc (zeroTxts ns.length)) := bal (Below.refl _ _) _
  have hsz : w.heap.size < (w.alloc (zeroTxts ns.length)).heap.size := by simp
  generalize w.alloc (zeroTxts ns.length) = w0 at hsl hfr hbw hsz ⊢
  clear hmk
  have Hsl := Lib.hid hsl; clear hsl
  have Hfr := Lib.hid hfr; clear hfr
  go_loopw [11] (fun i wr => ∃ j : Nat, j ≤ ns.length ∧ i = .int .i64 j ∧ Hid (TxtAt wr (w.heap.size + 1) (some ⟨w.heap.size, 0, none⟩) ((ns.map numT).take j ++ (List.replicate ns.length ByteArray.empty).drop j)) ∧ Hid (Free wr (some ⟨w.heap.size, 0, none⟩)) ∧ w.heap.size < wr.heap.size ∧ Below w.heap.size w wr) (fun i _ => ns.length - (intOf i).toNat)
  case atStart => exact ⟨0, by omega, rfl, Lib.hid (by simpa using Hsl.out), Hfr, hsz, hbw⟩
  case round =>
    clear Hsl Hfr hbw hsz
    obtain ⟨j, hj, rfl, Hr, Hf2, hs, hb1⟩ := hrel
    by_cases hlt : j < ns.length
    · have p0 : wr.cell? ⟨b, o + j, none⟩ = some (.int .i64 ns[j]) := (hb1.cell (p := ⟨b, o + j, none⟩) hb).trans (Hc.out j hlt)
      have hjl : j < ((ns.map numT).take j ++ (List.replicate ns.length ByteArray.empty).drop j).length := by simp; omega
      obtain ⟨g, o2, e, hgB, q0⟩ := TxtAt.at_ Hr.out hjl
      injection e with e
      injection e with e1 e2
      subst e1 e2
      obtain ⟨v0, q0⟩ : ∃ v, wr.cell? ⟨w.heap.size, 0 + j, none⟩ = some v := ⟨_, q0⟩
      rw [Nat.zero_add] at q0
      have Q0 := Lib.hid q0; clear q0
      have fz : ∀ i, wr.frozen? ⟨w.heap.size, i, none⟩ = false := Hf2.out _ rfl
      have Fz := Lib.hid fz; clear fz
      have hI := Hf.out _ (List.getElem_mem hlt)
      have HI := Lib.hid hI; clear hI
      go_wp2_with fail
      refine (itoa_any ns[j] wr HI.out.1 HI.out.2 (Ht.out.below hb1 (Nat.le_refl _))).mono ?_
      rintro e w1 ⟨rfl, hb2⟩
      have c0 : w1.cell? ⟨w.heap.size, j, none⟩ = some v0 := (hb2.cell hs).trans Q0.out
      have f0 : w1.frozen? ⟨w.heap.size, j, none⟩ = false := (hb2.frozen hs).trans (Fz.out _)
      have hn := Sl.puts (w1 := w1) Hr.out (fun x => rfl) hjl (fun i => hb2.cell hs) (numT ns[j])
      have et : numT ns[j] = (ns.map numT)[j]'(by simpa using hlt) := by simp
      rw [et, take_set (ns.map numT) _ j (by simpa using hlt) (by simpa using hlt), ← et, Nat.mul_one] at hn
      have Hn := Lib.hid hn; clear hn et
      have Hfn := Lib.hid (Free.puts (w1 := w1) (g := w.heap.size) (i := j) (txV (numT ns[j])) (fun i => (hb2.frozen hs).trans (Fz.out i)))
      have hsn : w.heap.size < (puts w1 w.heap.size j (txV (numT ns[j]))).heap.size := by rw [puts_size]; have := hb2.size; omega
      have Hsn := Lib.hid hsn; clear hsn
      have Hbn := Lib.hid (puts_below w.heap.size (Nat.le_refl _) (txV (numT ns[j])) w1 j (bnext hb1 hb2))
      generalize numT ns[j] = T at *
      go_wp2
      go_roundw
      case rel => exact ⟨j + 1, by omega, by go_num, Hn, Hfn, Hsn.out, Hbn.out⟩
      case measure => simp [intOf]; omega
    · obtain rfl : j = ns.length := by omega
      have hn : TxtAt wr (w.heap.size + 1) (some ⟨w.heap.size, 0, none⟩) (ns.map numT) := by
        have := Hr.out
        rw [List.take_of_length_le (by simp), List.drop_of_length_le (by simp), List.append_nil] at this
        exact this
      have hz : (joinT (ns.map numT) comma).size ≤ 140737488355328 := by
        have := joinT_size comma 21 (ns.map numT) (fun x hx => by
          obtain ⟨n, hn, rfl⟩ := List.mem_map.1 hx
          exact numT_le (Hf.out n hn).1 (Hf.out n hn).2)
        rw [List.length_map, comma_size] at this
        omega
      have hjn := joinS_any w.heap.size 0 ns.length (ns.map numT) comma _ wr hn hs (by simp; omega) (by simp) hz
      rw [List.length_map] at hjn
      obtain ⟨J, hJ⟩ : ∃ J, J = joinT (ns.map numT) comma := ⟨_, rfl⟩
      rw [← hJ] at hjn
      have HJ := Lib.hid hJ; clear hJ
      have Hj := Lib.hid hjn; clear hjn hn hz
      go_wp2_with fail
      refine Hj.out.mono ?_
      rintro e w1 ⟨rfl, hb2⟩
      go_wp2
      go_ret
      exact ⟨by rw [← HJ.out]; rfl, bnext hb1 hb2⟩

theorem nums_at (w : World) (a : GAgg) (t : TypeId) (j : Nat) (h : j < a.nums.length) : (w.alloc (.cells #[.int .i64 a.cnt, .int .i64 a.sum, .int .i64 a.mn, .int .i64 a.mx, .int .i64 a.fst, .int .i64 a.lst] t)).cell? ⟨w.heap.size, 0 + j, none⟩ = some (.int .i64 a.nums[j]) := by
  match j, h with
  | 0, _ => simp [GAgg.nums]
  | 1, _ => simp [GAgg.nums]
  | 2, _ => simp [GAgg.nums]
  | 3, _ => simp [GAgg.nums]
  | 4, _ => simp [GAgg.nums]
  | 5, _ => simp [GAgg.nums]
  | j + 6, h => simp [GAgg.nums] at h; omega

theorem fit_nums {a : GAgg} (h : a.fit) : ∀ n ∈ a.nums, I64 n := by
  obtain ⟨h0, h1, h2, h3, h4, h5⟩ := h
  intro n hn
  simp [GAgg.nums] at hn
  rcases hn with rfl | rfl | rfl | rfl | rfl | rfl <;> assumption

theorem numsText_any (a : GAgg) (ha : a.fit) (w : World) (ht : Pow w) : Calls Tryz.prog 74 #[.slice (some ⟨w.heap.size, 0, none⟩) 6 6] (w.alloc (.cells #[.int .i64 a.cnt, .int .i64 a.sum, .int .i64 a.mn, .int .i64 a.mx, .int .i64 a.fst, .int .i64 a.lst] 3)) fun e w' => e = .returned (.string (joinT (a.nums.map numT) comma)) ∧ Below w.heap.size w w' :=
  (numbersText_any w.heap.size 0 6 a.nums (w.alloc (.cells #[.int .i64 a.cnt, .int .i64 a.sum, .int .i64 a.mn, .int .i64 a.mx, .int .i64 a.fst, .int .i64 a.lst] 3)) (fun j h => nums_at w a _ j h) (by simp) (by simp [GAgg.nums]) (fit_nums ha) (ht.below (bal (Below.refl _ _) _) (Nat.le_refl _))).mono fun e w' ⟨he, hb⟩ => ⟨he, (bal (Below.refl _ _) _).trans (hb.mono (by simp))⟩

end Go.Proofs.YtpackpocnonpiaaGreatDoor
