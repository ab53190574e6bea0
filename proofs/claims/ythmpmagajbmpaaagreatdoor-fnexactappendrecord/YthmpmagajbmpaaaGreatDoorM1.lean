/-
  Several texts as one: contracts that the law leans on; each part says what it proves and its conditions.
-/
import Derived.Test.YthmpmagajbmpaaaGreatDoorNumTxt
import Derived.Test.YthmpmagajbmpaaaGreatDoorAppG
import Derived.Test.YthmpmagajbmpaaaGreatDoorRecW
import Derived.Test.YthmpmagajbmpaaaGreatDoorRecD
import Derived.Test.YthmpmagajbmpaaaGreatDoorRecE
import Derived.Deep.RegionHeld3

/- Contracts of the model's l00Join over any slice of texts, l02Join (numbers with commas between), l02Text and AggText. Conditions: none beside lengths. -/
namespace Go.Proofs.YthmpmagajbmpaaaGreatDoor
open Go.ChangeShapes Go.WideShapes Go.ChangeAt Go.RowKit
set_option linter.unusedVariables false

set_option maxRecDepth 100000 in
theorem joinNone_any (A : Option Addr) (c : Nat) (sep : ByteArray) (w : World) : Calls Tryz.prog 154 #[.slice A 0 c, .string sep] w fun e w' => e = .returned (.string (joinT [] sep)) ∧ Below w.heap.size w w' := by
  have ez := Lib.hid (joinT_nil sep)
  go_enter Tryz.func154, Tryz.ntmps154
  go_wp2_with fail
  go_loopw [5, 6] (fun t i wr => i = .int .i64 0 ∧ t = .string ⟨#[]⟩ ∧ wr = w) (fun _ i _ => 0)
  case atStart => exact ⟨rfl, rfl, rfl⟩
  case round =>
    obtain ⟨rfl, rfl, rfl⟩ := hrel
    go_wp2
    go_ret
    exact ⟨by rw [ez.out]; rfl, Below.refl _ _⟩

theorem joinA_any (A : Option Addr) (c : Nat) (xs : List ByteArray) (sep : ByteArray) (B : Nat) (w : World) (h : TxtAt w B A xs) (hB : B ≤ w.heap.size) (hl : xs.length ≤ 1048576) (hz : (joinT xs sep).size ≤ 4611686018427387904) :
    Calls Tryz.prog 154 #[.slice A xs.length c, .string sep] w fun e w' => e = .returned (.string (joinT xs sep)) ∧ Below w.heap.size w w' := by
  by_cases hx : xs = []
  · subst hx
    exact joinNone_any A c sep w
  · obtain ⟨b, o, rfl, hb, _⟩ := TxtAt.at_ h (k := 0) (by cases xs <;> simp_all)
    exact join_any b o c xs sep w (fun j hj => TxtAt.cells h j _ (List.getElem?_eq_getElem hj)) (by omega) (by omega) hz

theorem txV_one (s : ByteArray) : ∀ u ∈ txV s, u.oneCell' = true := by
  intro u hu
  simp [txV] at hu
  subst hu; rfl

theorem new_txt (w : World) (s : ByteArray) (e : TypeId) : Sl txV 1 (w.alloc (.cells #[.string s] e)) (w.heap.size + 1) (some ⟨w.heap.size, 0, none⟩) [s] := by
  intro _
  refine ⟨w.heap.size, 0, rfl, by omega, fun k hk j v hv => ?_⟩
  obtain rfl : k = 0 := by simpa using hk
  rw [World.cell?_alloc_new]
  match j, hv with
  | 0, hv => simpa [txV] using hv
  | j + 1, hv => simp [txV] at hv

set_option maxRecDepth 100000 in
theorem l02Join_any (b o c : Nat) (ns : List Int) (w : World) (hc : ∀ (j : Nat) (h : j < ns.length), w.cell? ⟨b, o + j, none⟩ = some (.int .i64 ns[j])) (hb : b < w.heap.size) (hl : ns.length ≤ 1000) (hf : ∀ n ∈ ns, I64 n) :
    Calls Tryz.prog 133 #[.slice (some ⟨b, o, none⟩) ns.length c] w fun e w' => e = .returned (.string (joinT (ns.map numT) comma)) ∧ Below w.heap.size w w' := by
  have Hc := Lib.hid hc; clear hc
  have Hf := Lib.hid hf; clear hf
  go_enter Tryz.func133, Tryz.ntmps133
  go_wp2_with fail
  have o0 : OwnSl txV 1 9 w.heap.size (w.alloc (.cells #[] 9)) (.slice (some ⟨w.heap.size, 0, none⟩) 0 0) [] := own_empty _ _ _ w
  have hbw : Below w.heap.size w (w.alloc (.cells #[] 9)) := bal (Below.refl _ _) _
  generalize w.alloc (.cells #[] 9) = w0 at o0 hbw ⊢
  have O0 := Lib.hid o0; clear o0
  go_loopw [3, 4] (fun s i wr => ∃ (j : Nat) (A : Option Addr) (c : Nat), j ≤ ns.length ∧ i = .int .i64 j ∧ s = .slice A j c ∧ Hid (OwnSl txV 1 9 w.heap.size wr (.slice A j c) ((ns.take j).map numT)) ∧ Below w.heap.size w wr) (fun _ i _ => ns.length - (intOf i).toNat)
  case atStart => exact ⟨0, _, _, by omega, rfl, rfl, O0, hbw⟩
  case round =>
    clear O0 hbw
    obtain ⟨j, A, c2, hj, rfl, rfl, HO, hb1⟩ := hrel
    by_cases hlt : j < ns.length
    · have p0 : wr.cell? ⟨b, o + j, none⟩ = some (.int .i64 ns[j]) := (hb1.cell (p := ⟨b, o + j, none⟩) hb).trans (Hc.out j hlt)
      have HI := Lib.hid (Hf.out _ (List.getElem_mem hlt))
      go_wp2_with fail
      refine (digits_int ns[j] wr HI.out.1 HI.out.2).mono ?_
      rintro e w1 ⟨rfl, hb2⟩
      have hlx : ((ns.take j).map numT).length = j := by simp; omega
      have hO4 := (HO.out.below hb2).below (bal (Below.refl _ w1) (.cells #[.string (numT ns[j])] 9))
      have en : (ns.take (j + 1)).map numT = (ns.take j).map numT ++ [numT ns[j]] := by rw [List.take_succ_eq_append_getElem hlt, List.map_append]; rfl
      have EN := Lib.hid en; clear en
      generalize numT ns[j] = T at *
      obtain ⟨xs, hxs⟩ : ∃ xs, xs = (ns.take j).map numT := ⟨_, rfl⟩
      rw [← hxs] at hlx hO4 EN
      have HO4 := Lib.hid hO4; clear hO4 hxs
      have HN := Lib.hid (new_txt w1 T 9)
      have sz : w.heap.size ≤ w1.heap.size := Nat.le_trans hb1.size hb2.size
      have hb4 : Below w.heap.size w (w1.alloc (.cells #[.string T] 9)) := bal (bnext hb1 hb2) _
      have Hb4 := Lib.hid hb4; clear hb4 hb2 p0 HO
      subst hlx
      go_wp2_with (at_builtin; refine wpList_append_sl txV 1 16 (fun _ => rfl) txV_one 110 9 _ infoStr rfl (by omega) Tryz.underlying110 rfl _ _ rfl w.heap.size xs [T] (.slice A xs.length c2) rfl HO4.out (some ⟨w1.heap.size, 0, none⟩) 1 (w1.heap.size + 1) rfl HN.out (by simp [maxLen]; omega) (by simp; omega) (by simp; omega) ?_; intro v' w5 hO5 hg5 _; obtain ⟨A5, c5, rfl⟩ := hO5.form; have HO5 := Lib.hid hO5; clear hO5; have Hg5 := Lib.hid hg5; clear hg5)
      have hb5 : Below w.heap.size w w5 := Hb4.out.trans (below_of_grown Hg5.out (by simp; omega) (fun g e => (World.ownsRow.lt HO4.out g e).1))
      have hO6 : OwnSl txV 1 9 w.heap.size w5 (.slice A5 (xs.length + 1) c5) ((ns.take (xs.length + 1)).map numT) := by
        rw [EN.out]; simpa using HO5.out
      have HO6 := Lib.hid hO6; clear hO6
      go_roundw
      case rel => exact ⟨xs.length + 1, A5, c5, by omega, by go_num, by simp, HO6, hb5⟩
      case measure => simp [intOf]; omega
    · obtain rfl : j = ns.length := by omega
      have hO := HO.out
      rw [List.take_length] at hO
      have hl2 : ns.length = (ns.map numT).length := by simp
      rw [hl2] at hO
      obtain ⟨hsl, _, _, _⟩ := OwnSl.sl hO (fun x => rfl)
      have hz : (joinT (ns.map numT) comma).size ≤ 4611686018427387904 := by
        have := joinT_size comma 21 (ns.map numT) (fun x hx => by
          obtain ⟨n, hn, rfl⟩ := List.mem_map.1 hx
          exact numT_le (Hf.out n hn).1 (Hf.out n hn).2)
        rw [List.length_map, comma_size] at this
        omega
      have hjn := joinA_any A c2 (ns.map numT) comma _ wr hsl (Nat.le_refl _) (by simp; omega) hz
      rw [← hl2] at hjn
      obtain ⟨J, hJ⟩ : ∃ J, J = joinT (ns.map numT) comma := ⟨_, rfl⟩
      rw [← hJ] at hjn
      have HJ := Lib.hid hJ; clear hJ
      have Hj := Lib.hid hjn; clear hjn hz hsl hO HO hl2
      go_wp2_with fail
      refine Hj.out.mono ?_
      rintro e w1 ⟨rfl, hb2⟩
      go_wp2
      go_ret
      exact ⟨by rw [← HJ.out]; rfl, bnext hb1 hb2⟩

end Go.Proofs.YthmpmagajbmpaaaGreatDoor

/- Contracts of RecordText of both packages. Conditions: the library's table of powers of ten, the program's table of paths are as their texts lay them; a text's length. -/
namespace Go.Proofs.YthmpmagajbmpaaaGreatDoor
open Go.ChangeShapes Go.WideShapes Go.ChangeAt Go.RowKit Go.Deep Go.Joins
set_option linter.unusedVariables false
set_option linter.unusedSimpArgs false

theorem numsText5_any (r : GRec) (hf : ∀ n ∈ r.nums, I64 n) (w : World) (ht : Pow w) : Calls Tryz.prog 94 #[.slice (some ⟨w.heap.size, 0, none⟩) 5 5] (w.alloc (.cells #[.int .i64 r.kind, .int .i64 r.tok, .int .i64 r.tier, .int .i64 r.beg, .int .i64 r.fin] 3)).drew fun e w' => e = .returned (.string (joinT (r.nums.map numT) comma)) ∧ Below w.heap.size w w' :=
  (numbersText_any w.heap.size 0 5 r.nums (w.alloc (.cells #[.int .i64 r.kind, .int .i64 r.tok, .int .i64 r.tier, .int .i64 r.beg, .int .i64 r.fin] 3)).drew (fun j h => (((Below.refl (w.heap.size + 1) (w.alloc (.cells #[.int .i64 r.kind, .int .i64 r.tok, .int .i64 r.tier, .int .i64 r.beg, .int .i64 r.fin] 3))).drew).cell (by simp)).trans (nums5_at w r _ j h)) (by simp) (by simp [GRec.nums]) hf (ht.below (bal (Below.refl _ _) _).drew (Nat.le_refl _))).mono fun e w' ⟨he, hb⟩ => ⟨he, (bal (Below.refl _ _) _).drew.trans (hb.mono (by simp))⟩

theorem join5_any (r : GRec) (hf : ∀ n ∈ r.nums, I64 n) (w : World) : Calls Tryz.prog 133 #[.slice (some ⟨w.heap.size, 0, none⟩) 5 5] (w.alloc (.cells #[.int .i64 r.kind, .int .i64 r.tok, .int .i64 r.tier, .int .i64 r.beg, .int .i64 r.fin] 3)).drew fun e w' => e = .returned (.string (joinT (r.nums.map numT) comma)) ∧ Below w.heap.size w w' :=
  (l02Join_any w.heap.size 0 5 r.nums (w.alloc (.cells #[.int .i64 r.kind, .int .i64 r.tok, .int .i64 r.tier, .int .i64 r.beg, .int .i64 r.fin] 3)).drew (fun j h => (((Below.refl (w.heap.size + 1) (w.alloc (.cells #[.int .i64 r.kind, .int .i64 r.tok, .int .i64 r.tier, .int .i64 r.beg, .int .i64 r.fin] 3))).drew).cell (by simp)).trans (nums5_at w r _ j h)) (by simp) (by simp [GRec.nums]) hf).mono fun e w' ⟨he, hb⟩ => ⟨he, (bal (Below.refl _ _) _).drew.trans (hb.mono (by simp))⟩

theorem nums5_size {r : GRec} (hf : ∀ n ∈ r.nums, I64 n) : (joinT (r.nums.map numT) comma).size ≤ 110 := by
  have := joinT_size comma 21 (r.nums.map numT) (fun x hx => by
    obtain ⟨n, hn, rfl⟩ := List.mem_map.1 hx
    exact numT_le (hf n hn).1 (hf n hn).2)
  rw [List.length_map, comma_size] at this
  simpa [GRec.nums] using this

theorem recordOK_b (r : GRec) (b : Bool) (h : b = true ↔ RecP r) (w : World) (hk : r.key.size ≤ 2 ^ 63 - 1) (hp : Paths w) (hz : 1 < w.heap.size) : Calls Tryz.prog 34 #[.agg #[.int .i64 r.kind, .int .i64 r.tok, .int .i64 r.tier, .int .i64 r.beg, .int .i64 r.fin, .string r.key]] w fun e w' => e = .returned (.bool b) ∧ Below w.heap.size w w' :=
  (recordOK_any r w hk hp hz).mono fun e w' ⟨b', hb', he, hB⟩ => ⟨by rw [he, Bool.eq_iff_iff.2 (hb'.trans h.symm)], hB⟩

theorem specRecordOK_b (r : GRec) (b : Bool) (h : b = true ↔ RecP r) (w : World) (hk : r.key.size ≤ 1048576) : Calls Tryz.prog 27 #[.agg #[.int .i64 r.kind, .int .i64 r.tok, .int .i64 r.tier, .int .i64 r.beg, .int .i64 r.fin, .string r.key]] w fun e w' => e = .returned (.bool b) ∧ Below w.heap.size w w' :=
  (specRecordOK_any r w hk).mono fun e w' ⟨b', hb', he, hB⟩ => ⟨by rw [he, Bool.eq_iff_iff.2 (hb'.trans h.symm)], hB⟩

theorem RecP.keyLe {r : GRec} (h : RecP r) : r.key.size ≤ 17 := by
  rcases h with ⟨_, _, _, h⟩ | ⟨_, _, _, _, _, h⟩ | ⟨_, _, _, h⟩ | ⟨_, _, h⟩ | ⟨_, _, _, _, _, h⟩
  · obtain ⟨t, n, m, h⟩ := h.key; exact isKey_size h
  · rw [h]; decide
  · obtain ⟨t, n, m, h⟩ := h.key; exact isKey_size h
  · obtain ⟨t, n, m, h⟩ := h.key; exact isKey_size h
  · obtain ⟨t, n, m, h⟩ := h; exact isKey_size h

set_option maxRecDepth 100000 in
theorem l06Text_any (r : GRec) (hf : ∀ n ∈ r.nums, I64 n) (hk : r.key.size ≤ 1048576) (w : World) : Calls Tryz.prog 93 #[.agg #[.int .i64 r.kind, .int .i64 r.tok, .int .i64 r.tier, .int .i64 r.beg, .int .i64 r.fin, .string r.key]] w fun e w' => e = .returned (.string (recT r)) ∧ Below w.heap.size w w' := by
  obtain ⟨J, hJ⟩ : ∃ J, J = joinT (r.nums.map numT) comma := ⟨_, rfl⟩
  have hz := nums5_size hf
  have key := fun (W : World) => join5_any r hf W
  have hT : recT r = J ++ ⟨#[32]⟩ ++ r.key := by rw [hJ]; rfl
  rw [← hJ] at hz
  simp only [← hJ] at key
  have z3 : ¬ 9223372036854775807 < J.size + 1 := by omega
  have z4 : ¬ 9223372036854775807 < J.size + 1 + r.key.size := by omega
  have HT := Lib.hid hT
  have Hk := Lib.hid key
  clear key hT hf hJ hz
  go_enter Tryz.func93, Tryz.ntmps93
  go_wp2_with fail
  have c0 := (RecAt.new w r 38).cells
  have b0 : Below w.heap.size w (w.alloc (.cells #[.int .i64 r.kind, .int .i64 r.tok, .int .i64 r.tier, .int .i64 r.beg, .int .i64 r.fin, .string r.key] 38)) := bal (Below.refl _ _) _
  have s0 : w.heap.size < (w.alloc (.cells #[.int .i64 r.kind, .int .i64 r.tok, .int .i64 r.tier, .int .i64 r.beg, .int .i64 r.fin, .string r.key] 38)).heap.size := by simp
  have RA := Lib.hid (RecAt.new w r 38)
  generalize w.alloc (.cells #[.int .i64 r.kind, .int .i64 r.tok, .int .i64 r.tier, .int .i64 r.beg, .int .i64 r.fin, .string r.key] 38) = W at *
  go_region_held3 (fun w' => w'.cell? ⟨w.heap.size, 0, none⟩ = some (.int .i64 r.kind) ∧ w'.cell? ⟨w.heap.size, 1, none⟩ = some (.int .i64 r.tok) ∧ w'.cell? ⟨w.heap.size, 2, none⟩ = some (.int .i64 r.tier) ∧ w'.cell? ⟨w.heap.size, 3, none⟩ = some (.int .i64 r.beg) ∧ w'.cell? ⟨w.heap.size, 4, none⟩ = some (.int .i64 r.fin) ∧ w'.cell? ⟨w.heap.size, 5, none⟩ = some (.string r.key)) (first | exact c0 | exact (RA.out.below hb1 s0).cells | (go_keep; done))
    (first | (go_at_call 133; refine (Hk.out W).mono ?_; rintro e w1 ⟨rfl, hb1⟩))
  have b2 := bnext b0 hb1
  clear hb1 c0 RA
  go_wp2
  go_ret
  exact ⟨by rw [HT.out]; rfl, b2⟩

set_option maxRecDepth 100000 in
theorem recordText_any (r : GRec) (hf : r.fit) (w : World) (hk : r.key.size ≤ 2 ^ 63 - 1) (hp : Paths w) (hz : 1 < w.heap.size) (ht : Pow w) : Calls Tryz.prog 59 #[.agg #[.int .i64 r.kind, .int .i64 r.tok, .int .i64 r.tier, .int .i64 r.beg, .int .i64 r.fin, .string r.key]] w fun e w' => ∃ s cd, e = .returned (.tuple #[.string s, .int .i64 cd]) ∧ RecTextOf r s cd ∧ Below w.heap.size w w' := by
  have hn := fit_nums5 ⟨hf.1, hf.2.1, hf.2.2.1, hf.2.2.2.1, hf.2.2.2.2.1⟩
  have HP : Hid (∀ w', Below w.heap.size w w' → Paths w' ∧ 1 < w'.heap.size ∧ Pow w') := Lib.hid (fun w' h => ⟨hp.below h hz, Nat.lt_of_lt_of_le hz h.size, ht.below h (Nat.le_refl _)⟩)
  clear hp ht
  by_cases hp : RecP r
  · have h17 := hp.keyLe
    have hT : recT r = joinT (r.nums.map numT) comma ++ ⟨#[32]⟩ ++ r.key := rfl
    have hz := nums5_size hn
    have key := fun (W : World) (h : Below w.heap.size w W) => numsText5_any r hn W (HP.out W h).2.2
    obtain ⟨J, hJ⟩ : ∃ J, J = joinT (r.nums.map numT) comma := ⟨_, rfl⟩
    rw [← hJ] at hz hT
    simp only [← hJ] at key
    have z3 : ¬ 9223372036854775807 < J.size + 1 := by omega
    have z4 : ¬ 9223372036854775807 < J.size + 1 + r.key.size := by omega
    have HT := Lib.hid hT
    have Hk := Lib.hid key
    have Hp := Lib.hid hp
    clear key hT hn hJ hz hp h17
    go_enter Tryz.func59, Tryz.ntmps59
    go_wp2_with fail
    have b00 : Below w.heap.size w (w.alloc (.cells #[.int .i64 r.kind, .int .i64 r.tok, .int .i64 r.tier, .int .i64 r.beg, .int .i64 r.fin, .string r.key] 38)) := bal (Below.refl _ _) _
    refine (recordOK_b r true (by simp [Hp.out]) _ hk (HP.out _ b00).1 (HP.out _ b00).2.1).mono ?_
    rintro e w1 ⟨rfl, hb1⟩
    have b0 : Below w.heap.size w w1 := (bal (Below.refl _ _) _).trans (hb1.mono (by simp))
    have RA := Lib.hid ((RecAt.new w r 38).below hb1 (by simp))
    have s0 : w.heap.size < w1.heap.size := by have := hb1.size; simp at this; omega
    have c0 := RA.out.cells
    clear hb1 b00
    go_wp2_with fail
    go_region_held3 (fun w' => w'.cell? ⟨w.heap.size, 0, none⟩ = some (.int .i64 r.kind) ∧ w'.cell? ⟨w.heap.size, 1, none⟩ = some (.int .i64 r.tok) ∧ w'.cell? ⟨w.heap.size, 2, none⟩ = some (.int .i64 r.tier) ∧ w'.cell? ⟨w.heap.size, 3, none⟩ = some (.int .i64 r.beg) ∧ w'.cell? ⟨w.heap.size, 4, none⟩ = some (.int .i64 r.fin) ∧ w'.cell? ⟨w.heap.size, 5, none⟩ = some (.string r.key)) (first | exact c0 | exact (RA.out.below hb2 s0).cells | (go_keep; done))
      (first | (go_at_call 94; refine (Hk.out w1 b0).mono ?_; rintro e w2 ⟨rfl, hb2⟩))
    have b2 := bnext b0 hb2
    clear hb2 c0 RA
    go_wp2
    refine bodyPost_ret (v := .tuple #[.string (recT r), .int .i64 0]) (by rw [HT.out]; simp [results, Tryz.results59, go_sem]) rfl ⟨recT r, 0, rfl, Or.inl ⟨Hp.out, rfl, rfl⟩, b2⟩
  · have Hp := Lib.hid hp; clear hp
    go_enter Tryz.func59, Tryz.ntmps59
    go_wp2_with fail
    have b00 : Below w.heap.size w (w.alloc (.cells #[.int .i64 r.kind, .int .i64 r.tok, .int .i64 r.tier, .int .i64 r.beg, .int .i64 r.fin, .string r.key] 38)) := bal (Below.refl _ _) _
    refine (recordOK_b r false (by simp [Hp.out]) _ hk (HP.out _ b00).1 (HP.out _ b00).2.1).mono ?_
    rintro e w1 ⟨rfl, hb1⟩
    have b1 : Below w.heap.size w w1 := (bal (Below.refl _ _) _).trans (hb1.mono (by simp))
    clear hb1
    go_wp2
    refine bodyPost_ret (v := .tuple #[.string ⟨#[]⟩, .int .i64 1]) (by simp [results, Tryz.results59, go_sem]) rfl ⟨⟨#[]⟩, 1, rfl, Or.inr ⟨Hp.out, rfl, rfl⟩, b1⟩

end Go.Proofs.YthmpmagajbmpaaaGreatDoor
