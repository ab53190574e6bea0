/-
  Contracts of RecordText of both packages. Conditions: the library's table of powers of ten, the program's table of paths are as their texts lay them; a text's length.
-/
import Derived.Test.YtjmfffmjfbpgjaaDoorRecW
import Derived.Test.YtjmfffmjfbpgjaaDoorRecD
import Derived.Test.YtjmfffmjfbpgjaaDoorRecE
import Derived.Test.YtjmfffmjfbpgjaaDoorSpecTxt
import Derived.Deep.RegionHeld3
namespace Go.Proofs.YtjmfffmjfbpgjaaDoor
open Go.ChangeShapes Go.WideShapes Go.ChangeAt Go.RowKit Go.Deep Go.Joins
set_option linter.unusedVariables false
set_option linter.unusedSimpArgs false

theorem numsText5_any (r : GRec) (hf : ∀ n ∈ r.nums, I64 n) (w : World) (ht : Pow w) : Calls Tryd.prog 22 #[.slice (some ⟨w.heap.size, 0, none⟩) 5 5] (w.alloc (.cells #[.int .i64 r.kind, .int .i64 r.tok, .int .i64 r.tier, .int .i64 r.beg, .int .i64 r.fin] 3)).drew fun e w' => e = .returned (.string (joinT (r.nums.map numT) comma)) ∧ Below w.heap.size w w' :=
  (numbersText_any w.heap.size 0 5 r.nums (w.alloc (.cells #[.int .i64 r.kind, .int .i64 r.tok, .int .i64 r.tier, .int .i64 r.beg, .int .i64 r.fin] 3)).drew (fun j h => (((Below.refl (w.heap.size + 1) (w.alloc (.cells #[.int .i64 r.kind, .int .i64 r.tok, .int .i64 r.tier, .int .i64 r.beg, .int .i64 r.fin] 3))).drew).cell (by simp)).trans (nums5_at w r _ j h)) (by simp) (by simp [GRec.nums]) hf (ht.below (bal (Below.refl _ _) _).drew (Nat.le_refl _))).mono fun e w' ⟨he, hb⟩ => ⟨he, (bal (Below.refl _ _) _).drew.trans (hb.mono (by simp))⟩

theorem join5_any (r : GRec) (hf : ∀ n ∈ r.nums, I64 n) (w : World) : Calls Tryd.prog 54 #[.slice (some ⟨w.heap.size, 0, none⟩) 5 5] (w.alloc (.cells #[.int .i64 r.kind, .int .i64 r.tok, .int .i64 r.tier, .int .i64 r.beg, .int .i64 r.fin] 3)).drew fun e w' => e = .returned (.string (joinT (r.nums.map numT) comma)) ∧ Below w.heap.size w w' :=
  (l02Join_any w.heap.size 0 5 r.nums (w.alloc (.cells #[.int .i64 r.kind, .int .i64 r.tok, .int .i64 r.tier, .int .i64 r.beg, .int .i64 r.fin] 3)).drew (fun j h => (((Below.refl (w.heap.size + 1) (w.alloc (.cells #[.int .i64 r.kind, .int .i64 r.tok, .int .i64 r.tier, .int .i64 r.beg, .int .i64 r.fin] 3))).drew).cell (by simp)).trans (nums5_at w r _ j h)) (by simp) (by simp [GRec.nums]) hf).mono fun e w' ⟨he, hb⟩ => ⟨he, (bal (Below.refl _ _) _).drew.trans (hb.mono (by simp))⟩

theorem nums5_size {r : GRec} (hf : ∀ n ∈ r.nums, I64 n) : (joinT (r.nums.map numT) comma).size ≤ 110 := by
  have := joinT_size comma 21 (r.nums.map numT) (fun x hx => by
    obtain ⟨n, hn, rfl⟩ := List.mem_map.1 hx
    exact numT_le (hf n hn).1 (hf n hn).2)
  rw [List.length_map, comma_size] at this
  simpa [GRec.nums] using this

theorem recordOK_b (r : GRec) (b : Bool) (h : b = true ↔ RecP r) (w : World) (hk : r.key.size ≤ 2 ^ 63 - 1) (hp : Paths w) (hz : 1 < w.heap.size) : Calls Tryd.prog 9 #[.agg #[.int .i64 r.kind, .int .i64 r.tok, .int .i64 r.tier, .int .i64 r.beg, .int .i64 r.fin, .string r.key]] w fun e w' => e = .returned (.bool b) ∧ Below w.heap.size w w' :=
  (recordOK_any r w hk hp hz).mono fun e w' ⟨b', hb', he, hB⟩ => ⟨by rw [he, Bool.eq_iff_iff.2 (hb'.trans h.symm)], hB⟩

theorem specRecordOK_b (r : GRec) (b : Bool) (h : b = true ↔ RecP r) (w : World) (hk : r.key.size ≤ 1048576) : Calls Tryd.prog 7 #[.agg #[.int .i64 r.kind, .int .i64 r.tok, .int .i64 r.tier, .int .i64 r.beg, .int .i64 r.fin, .string r.key]] w fun e w' => e = .returned (.bool b) ∧ Below w.heap.size w w' :=
  (specRecordOK_any r w hk).mono fun e w' ⟨b', hb', he, hB⟩ => ⟨by rw [he, Bool.eq_iff_iff.2 (hb'.trans h.symm)], hB⟩

theorem RecP.keyLe {r : GRec} (h : RecP r) : r.key.size ≤ 17 := by
  rcases h with ⟨_, _, _, h⟩ | ⟨_, _, _, _, _, h⟩ | ⟨_, _, _, h⟩ | ⟨_, _, h⟩ | ⟨_, _, _, _, _, h⟩
  · obtain ⟨t, n, m, h⟩ := h.key; exact isKey_size h
  · rw [h]; decide
  · obtain ⟨t, n, m, h⟩ := h.key; exact isKey_size h
  · obtain ⟨t, n, m, h⟩ := h.key; exact isKey_size h
  · obtain ⟨t, n, m, h⟩ := h; exact isKey_size h

set_option maxRecDepth 100000 in
theorem l06Text_any (r : GRec) (hf : ∀ n ∈ r.nums, I64 n) (hk : r.key.size ≤ 1048576) (w : World) : Calls Tryd.prog 21 #[.agg #[.int .i64 r.kind, .int .i64 r.tok, .int .i64 r.tier, .int .i64 r.beg, .int .i64 r.fin, .string r.key]] w fun e w' => e = .returned (.string (recT r)) ∧ Below w.heap.size w w' := by
  obtain ⟨J, hJ⟩ : ∃ J, J = joinT (r.nums.map numT) comma := ⟨_, rfl⟩
  have hz := nums5_size hf
  have key := fun (W : World) => join5_any r hf W
  have hT : recT r = J ++ ⟨#[32]⟩ ++ r.key := by rw [hJ]; rfl
  rw [← hJ] at hz
  simp only [← hJ] at key
  have z3 : ¬ 9223372036854775807 < J.size + 1 := by omega
  have z4 : ¬ 9223372036854775807 < J.size + 1 + r.key.size := by omega
  have HT := Lib.hid hT
  have Hk := Lib.hid key
  clear key hT hf hJ hz
  go_enter Tryd.func21, Tryd.ntmps21
  go_wp2_with fail
  have c0 := (RecAt.new w r 26).cells
  have b0 : Below w.heap.size w (w.alloc (.cells #[.int .i64 r.kind, .int .i64 r.tok, .int .i64 r.tier, .int .i64 r.beg, .int .i64 r.fin, .string r.key] 26)) := bal (Below.refl _ _) _
  have s0 : w.heap.size < (w.alloc (.cells #[.int .i64 r.kind, .int .i64 r.tok, .int .i64 r.tier, .int .i64 r.beg, .int .i64 r.fin, .string r.key] 26)).heap.size := by simp
  have RA := Lib.hid (RecAt.new w r 26)
  generalize w.alloc (.cells #[.int .i64 r.kind, .int .i64 r.tok, .int .i64 r.tier, .int .i64 r.beg, .int .i64 r.fin, .string r.key] 26) = W at *
  go_region_held3 (fun w' => w'.cell? ⟨w.heap.size, 0, none⟩ = some (.int .i64 r.kind) ∧ w'.cell? ⟨w.heap.size, 1, none⟩ = some (.int .i64 r.tok) ∧ w'.cell? ⟨w.heap.size, 2, none⟩ = some (.int .i64 r.tier) ∧ w'.cell? ⟨w.heap.size, 3, none⟩ = some (.int .i64 r.beg) ∧ w'.cell? ⟨w.heap.size, 4, none⟩ = some (.int .i64 r.fin) ∧ w'.cell? ⟨w.heap.size, 5, none⟩ = some (.string r.key)) (first | exact c0 | exact (RA.out.below hb1 s0).cells | (go_keep; done))
    (first | (go_at_call 54; refine (Hk.out W).mono ?_; rintro e w1 ⟨rfl, hb1⟩))
  have b2 := bnext b0 hb1
  clear hb1 c0 RA
  go_wp2
  go_ret
  exact ⟨by rw [HT.out]; rfl, b2⟩

/-- the program's text of a right record's number and key, where its block lies -/
theorem specRecordText_any (r : GRec) (hf : r.fit) (w : World) (hk : r.key.size ≤ 1048576) : Calls Tryd.prog 10 #[.agg #[.int .i64 r.kind, .int .i64 r.tok, .int .i64 r.tier, .int .i64 r.beg, .int .i64 r.fin, .string r.key]] w fun e w' => ∃ s cd, e = .returned (.tuple #[.string s, .int .i64 cd]) ∧ RecTextOf r s cd ∧ Below w.heap.size w w' := by
  have hn := fit_nums5 ⟨hf.1, hf.2.1, hf.2.2.1, hf.2.2.2.1, hf.2.2.2.2.1⟩
  have HN := Lib.hid hn; clear hn
  by_cases hp : RecP r
  · have Hp := Lib.hid hp; clear hp
    go_enter Tryd.func10, Tryd.ntmps10
    go_wp2_with fail
    refine (specRecordOK_b r true (by simp [Hp.out]) _ hk).mono ?_
    rintro e w1 ⟨rfl, hb1⟩
    have b1 : Below w.heap.size w w1 := (bal (Below.refl _ _) _).trans (hb1.mono (by simp))
    obtain ⟨c0, c1, c2, c3, c4, c5⟩ := ((RecAt.new w r 26).below hb1 (by simp)).cells
    clear hb1
    go_wp2_with fail
    refine (l06Text_any r HN.out hk _).mono ?_
    rintro e w2 ⟨rfl, hb2⟩
    obtain ⟨J, hJ⟩ : ∃ J, J = recT r := ⟨_, rfl⟩
    rw [← hJ]
    have HJ := Lib.hid hJ; clear hJ c0 c1 c2 c3 c4 c5
    go_wp2
    refine bodyPost_ret (v := .tuple #[.string J, .int .i64 0]) (by simp [results, Tryd.results10, go_sem]) rfl ⟨J, 0, rfl, Or.inl ⟨Hp.out, HJ.out, rfl⟩, bnext b1 hb2⟩
  · have Hp := Lib.hid hp; clear hp
    go_enter Tryd.func10, Tryd.ntmps10
    go_wp2_with fail
    refine (specRecordOK_b r false (by simp [Hp.out]) _ hk).mono ?_
    rintro e w1 ⟨rfl, hb1⟩
    have b1 : Below w.heap.size w w1 := (bal (Below.refl _ _) _).trans (hb1.mono (by simp))
    clear hb1
    go_wp2
    refine bodyPost_ret (v := .tuple #[.string ⟨#[]⟩, .int .i64 1]) (by simp [results, Tryd.results10, go_sem]) rfl ⟨⟨#[]⟩, 1, rfl, Or.inr ⟨Hp.out, rfl, rfl⟩, b1⟩

set_option maxRecDepth 100000 in
theorem recordText_any (r : GRec) (hf : r.fit) (w : World) (hk : r.key.size ≤ 2 ^ 63 - 1) (hp : Paths w) (hz : 1 < w.heap.size) (ht : Pow w) : Calls Tryd.prog 11 #[.agg #[.int .i64 r.kind, .int .i64 r.tok, .int .i64 r.tier, .int .i64 r.beg, .int .i64 r.fin, .string r.key]] w fun e w' => ∃ s cd, e = .returned (.tuple #[.string s, .int .i64 cd]) ∧ RecTextOf r s cd ∧ Below w.heap.size w w' := by
  have hn := fit_nums5 ⟨hf.1, hf.2.1, hf.2.2.1, hf.2.2.2.1, hf.2.2.2.2.1⟩
  have HP : Hid (∀ w', Below w.heap.size w w' → Paths w' ∧ 1 < w'.heap.size ∧ Pow w') := Lib.hid (fun w' h => ⟨hp.below h hz, Nat.lt_of_lt_of_le hz h.size, ht.below h (Nat.le_refl _)⟩)
  clear hp ht
  by_cases hp : RecP r
  · have h17 := hp.keyLe
    have hT : recT r = joinT (r.nums.map numT) comma ++ ⟨#[32]⟩ ++ r.key := rfl
    have hz := nums5_size hn
    have key := fun (W : World) (h : Below w.heap.size w W) => numsText5_any r hn W (HP.out W h).2.2
    obtain ⟨J, hJ⟩ : ∃ J, J = joinT (r.nums.map numT) comma := ⟨_, rfl⟩
    rw [← hJ] at hz hT
    simp only [← hJ] at key
    have z3 : ¬ 9223372036854775807 < J.size + 1 := by omega
    have z4 : ¬ 9223372036854775807 < J.size + 1 + r.key.size := by omega
    have HT := Lib.hid hT
    have Hk := Lib.hid key
    have Hp := Lib.hid hp
    clear key hT hn hJ hz hp h17
    go_enter Tryd.func11, Tryd.ntmps11
    go_wp2_with fail
    have b00 : Below w.heap.size w (w.alloc (.cells #[.int .i64 r.kind, .int .i64 r.tok, .int .i64 r.tier, .int .i64 r.beg, .int .i64 r.fin, .string r.key] 26)) := bal (Below.refl _ _) _
    refine (recordOK_b r true (by simp [Hp.out]) _ hk (HP.out _ b00).1 (HP.out _ b00).2.1).mono ?_
    rintro e w1 ⟨rfl, hb1⟩
    have b0 : Below w.heap.size w w1 := (bal (Below.refl _ _) _).trans (hb1.mono (by simp))
    have RA := Lib.hid ((RecAt.new w r 26).below hb1 (by simp))
    have s0 : w.heap.size < w1.heap.size := by have := hb1.size; simp at this; omega
    have c0 := RA.out.cells
    clear hb1 b00
    go_wp2_with fail
    go_region_held3 (fun w' => w'.cell? ⟨w.heap.size, 0, none⟩ = some (.int .i64 r.kind) ∧ w'.cell? ⟨w.heap.size, 1, none⟩ = some (.int .i64 r.tok) ∧ w'.cell? ⟨w.heap.size, 2, none⟩ = some (.int .i64 r.tier) ∧ w'.cell? ⟨w.heap.size, 3, none⟩ = some (.int .i64 r.beg) ∧ w'.cell? ⟨w.heap.size, 4, none⟩ = some (.int .i64 r.fin) ∧ w'.cell? ⟨w.heap.size, 5, none⟩ = some (.string r.key)) (first | exact c0 | exact (RA.out.below hb2 s0).cells | (go_keep; done))
      (first | (go_at_call 22; refine (Hk.out w1 b0).mono ?_; rintro e w2 ⟨rfl, hb2⟩))
    have b2 := bnext b0 hb2
    clear hb2 c0 RA
    go_wp2
    refine bodyPost_ret (v := .tuple #[.string (recT r), .int .i64 0]) (by rw [HT.out]; simp [results, Tryd.results11, go_sem]) rfl ⟨recT r, 0, rfl, Or.inl ⟨Hp.out, rfl, rfl⟩, b2⟩
  · have Hp := Lib.hid hp; clear hp
    go_enter Tryd.func11, Tryd.ntmps11
    go_wp2_with fail
    have b00 : Below w.heap.size w (w.alloc (.cells #[.int .i64 r.kind, .int .i64 r.tok, .int .i64 r.tier, .int .i64 r.beg, .int .i64 r.fin, .string r.key] 26)) := bal (Below.refl _ _) _
    refine (recordOK_b r false (by simp [Hp.out]) _ hk (HP.out _ b00).1 (HP.out _ b00).2.1).mono ?_
    rintro e w1 ⟨rfl, hb1⟩
    have b1 : Below w.heap.size w w1 := (bal (Below.refl _ _) _).trans (hb1.mono (by simp))
    clear hb1
    go_wp2
    refine bodyPost_ret (v := .tuple #[.string ⟨#[]⟩, .int .i64 1]) (by simp [results, Tryd.results11, go_sem]) rfl ⟨⟨#[]⟩, 1, rfl, Or.inr ⟨Hp.out, rfl, rfl⟩, b1⟩

end Go.Proofs.YtjmfffmjfbpgjaaDoor
