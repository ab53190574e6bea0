/-
  Several texts as one: contracts that the law leans on; each part says what it proves and its conditions.
-/
import Derived.Test.YtjmfffmjfbpgjaaGreatDoorNumTxt
import Derived.Test.YtjmfffmjfbpgjaaGreatDoorAppG
import Derived.Test.YtjmfffmjfbpgjaaGreatDoorRecW
import Derived.Test.YtjmfffmjfbpgjaaGreatDoorRecD
import Derived.Test.YtjmfffmjfbpgjaaGreatDoorRecE
import Derived.Deep.RegionHeld3
import Derived.Test.YtjmfffmjfbpgjaaGreatDoorRdKey
import Derived.Test.YtjmfffmjfbpgjaaGreatDoorKeyOK

/- Contracts of the model's l00Join over any slice of texts, l02Join (numbers with commas between), l02Text and AggText. Conditions: none beside lengths. -/
namespace Go.Proofs.YtjmfffmjfbpgjaaGreatDoor
open Go.ChangeShapes Go.WideShapes Go.ChangeAt Go.RowKit
set_option linter.unusedVariables false

set_option maxRecDepth 100000 in
theorem joinNone_any (A : Option Addr) (c : Nat) (sep : ByteArray) (w : World) : Calls Tryz.prog 118 #[.slice A 0 c, .string sep] w fun e w' => e = .returned (.string (joinT [] sep)) ∧ Below w.heap.size w w' := by
  have ez := Lib.hid (joinT_nil sep)
  go_enter Tryz.func118, Tryz.ntmps118
  go_wp2_with fail
  go_loopw [5, 6] (fun t i wr => i = .int .i64 0 ∧ t = .string ⟨#[]⟩ ∧ wr = w) (fun _ i _ => 0)
  case atStart => exact ⟨rfl, rfl, rfl⟩
  case round =>
    obtain ⟨rfl, rfl, rfl⟩ := hrel
    go_wp2
    go_ret
    exact ⟨by rw [ez.out]; rfl, Below.refl _ _⟩

theorem joinA_any (A : Option Addr) (c : Nat) (xs : List ByteArray) (sep : ByteArray) (B : Nat) (w : World) (h : TxtAt w B A xs) (hB : B ≤ w.heap.size) (hl : xs.length ≤ 1048576) (hz : (joinT xs sep).size ≤ 4611686018427387904) :
    Calls Tryz.prog 118 #[.slice A xs.length c, .string sep] w fun e w' => e = .returned (.string (joinT xs sep)) ∧ Below w.heap.size w w' := by
  by_cases hx : xs = []
  · subst hx
    exact joinNone_any A c sep w
  · obtain ⟨b, o, rfl, hb, _⟩ := TxtAt.at_ h (k := 0) (by cases xs <;> simp_all)
    exact join_any b o c xs sep w (fun j hj => TxtAt.cells h j _ (List.getElem?_eq_getElem hj)) (by omega) (by omega) hz

theorem txV_one (s : ByteArray) : ∀ u ∈ txV s, u.oneCell' = true := by
  intro u hu
  simp [txV] at hu
  subst hu; rfl

theorem new_txt (w : World) (s : ByteArray) (e : TypeId) : Sl txV 1 (w.alloc (.cells #[.string s] e)) (w.heap.size + 1) (some ⟨w.heap.size, 0, none⟩) [s] := by
  intro _
  refine ⟨w.heap.size, 0, rfl, by omega, fun k hk j v hv => ?_⟩
  obtain rfl : k = 0 := by simpa using hk
  rw [World.cell?_alloc_new]
  match j, hv with
  | 0, hv => simpa [txV] using hv
  | j + 1, hv => simp [txV] at hv

set_option maxRecDepth 100000 in
theorem l02Join_any (b o c : Nat) (ns : List Int) (w : World) (hc : ∀ (j : Nat) (h : j < ns.length), w.cell? ⟨b, o + j, none⟩ = some (.int .i64 ns[j])) (hb : b < w.heap.size) (hl : ns.length ≤ 1000) (hf : ∀ n ∈ ns, I64 n) :
    Calls Tryz.prog 173 #[.slice (some ⟨b, o, none⟩) ns.length c] w fun e w' => e = .returned (.string (joinT (ns.map numT) comma)) ∧ Below w.heap.size w w' := by
  have Hc := Lib.hid hc; clear hc
  have Hf := Lib.hid hf; clear hf
  go_enter Tryz.func173, Tryz.ntmps173
  go_wp2_with fail
  have o0 : OwnSl txV 1 9 w.heap.size (w.alloc (.cells #[] 9)) (.slice (some ⟨w.heap.size, 0, none⟩) 0 0) [] := own_empty _ _ _ w
  have hbw : Below w.heap.size w (w.alloc (.cells #[] 9)) := bal (Below.refl _ _) _
  generalize w.alloc (.cells #[] 9) = w0 at o0 hbw ⊢
  have O0 := Lib.hid o0; clear o0
  go_loopw [3, 4] (fun s i wr => ∃ (j : Nat) (A : Option Addr) (c : Nat), j ≤ ns.length ∧ i = .int .i64 j ∧ s = .slice A j c ∧ Hid (OwnSl txV 1 9 w.heap.size wr (.slice A j c) ((ns.take j).map numT)) ∧ Below w.heap.size w wr) (fun _ i _ => ns.length - (intOf i).toNat)
  case atStart => exact ⟨0, _, _, by omega, rfl, rfl, O0, hbw⟩
  case round =>
    clear O0 hbw
    obtain ⟨j, A, c2, hj, rfl, rfl, HO, hb1⟩ := hrel
    by_cases hlt : j < ns.length
    · have p0 : wr.cell? ⟨b, o + j, none⟩ = some (.int .i64 ns[j]) := (hb1.cell (p := ⟨b, o + j, none⟩) hb).trans (Hc.out j hlt)
      have HI := Lib.hid (Hf.out _ (List.getElem_mem hlt))
      go_wp2_with fail
      refine (digits_int ns[j] wr HI.out.1 HI.out.2).mono ?_
      rintro e w1 ⟨rfl, hb2⟩
      have hlx : ((ns.take j).map numT).length = j := by simp; omega
      have hO4 := (HO.out.below hb2).below (bal (Below.refl _ w1) (.cells #[.string (numT ns[j])] 9))
      have en : (ns.take (j + 1)).map numT = (ns.take j).map numT ++ [numT ns[j]] := by rw [List.take_succ_eq_append_getElem hlt, List.map_append]; rfl
      have EN := Lib.hid en; clear en
      generalize numT ns[j] = T at *
      obtain ⟨xs, hxs⟩ : ∃ xs, xs = (ns.take j).map numT := ⟨_, rfl⟩
      rw [← hxs] at hlx hO4 EN
      have HO4 := Lib.hid hO4; clear hO4 hxs
      have HN := Lib.hid (new_txt w1 T 9)
      have sz : w.heap.size ≤ w1.heap.size := Nat.le_trans hb1.size hb2.size
      have hb4 : Below w.heap.size w (w1.alloc (.cells #[.string T] 9)) := bal (bnext hb1 hb2) _
      have Hb4 := Lib.hid hb4; clear hb4 hb2 p0 HO
      subst hlx
      go_wp2_with (at_builtin; refine wpList_append_sl txV 1 16 (fun _ => rfl) txV_one 170 9 _ infoStr rfl (by omega) Tryz.underlying170 rfl _ _ rfl w.heap.size xs [T] (.slice A xs.length c2) rfl HO4.out (some ⟨w1.heap.size, 0, none⟩) 1 (w1.heap.size + 1) rfl HN.out (by simp [maxLen]; omega) (by simp; omega) (by simp; omega) ?_; intro v' w5 hO5 hg5 _; obtain ⟨A5, c5, rfl⟩ := hO5.form; have HO5 := Lib.hid hO5; clear hO5; have Hg5 := Lib.hid hg5; clear hg5)
      have hb5 : Below w.heap.size w w5 := Hb4.out.trans (below_of_grown Hg5.out (by simp; omega) (fun g e => (World.ownsRow.lt HO4.out g e).1))
      have hO6 : OwnSl txV 1 9 w.heap.size w5 (.slice A5 (xs.length + 1) c5) ((ns.take (xs.length + 1)).map numT) := by
        rw [EN.out]; simpa using HO5.out
      have HO6 := Lib.hid hO6; clear hO6
      go_roundw
      case rel => exact ⟨xs.length + 1, A5, c5, by omega, by go_num, by simp, HO6, hb5⟩
      case measure => simp [intOf]; omega
    · obtain rfl : j = ns.length := by omega
      have hO := HO.out
      rw [List.take_length] at hO
      have hl2 : ns.length = (ns.map numT).length := by simp
      rw [hl2] at hO
      obtain ⟨hsl, _, _, _⟩ := OwnSl.sl hO (fun x => rfl)
      have hz : (joinT (ns.map numT) comma).size ≤ 4611686018427387904 := by
        have := joinT_size comma 21 (ns.map numT) (fun x hx => by
          obtain ⟨n, hn, rfl⟩ := List.mem_map.1 hx
          exact numT_le (Hf.out n hn).1 (Hf.out n hn).2)
        rw [List.length_map, comma_size] at this
        omega
      have hjn := joinA_any A c2 (ns.map numT) comma _ wr hsl (Nat.le_refl _) (by simp; omega) hz
      rw [← hl2] at hjn
      obtain ⟨J, hJ⟩ : ∃ J, J = joinT (ns.map numT) comma := ⟨_, rfl⟩
      rw [← hJ] at hjn
      have HJ := Lib.hid hJ; clear hJ
      have Hj := Lib.hid hjn; clear hjn hz hsl hO HO hl2
      go_wp2_with fail
      refine Hj.out.mono ?_
      rintro e w1 ⟨rfl, hb2⟩
      go_wp2
      go_ret
      exact ⟨by rw [← HJ.out]; rfl, bnext hb1 hb2⟩

set_option maxRecDepth 100000 in
theorem l02Text_any (a : GAgg) (ha : a.fit) (w : World) : Calls Tryz.prog 124 #[.agg #[.int .i64 a.cnt, .int .i64 a.sum, .int .i64 a.mn, .int .i64 a.mx, .int .i64 a.fst, .int .i64 a.lst]] w fun e w' => e = .returned (.string (joinT (a.nums.map numT) comma)) ∧ Below w.heap.size w w' := by
  obtain ⟨J, hJ⟩ : ∃ J, J = joinT (a.nums.map numT) comma := ⟨_, rfl⟩
  have key : ∀ (w : World) (n : Nat), n = w.heap.size → Calls Tryz.prog 173 #[.slice (some ⟨n, 0, none⟩) 6 6] (w.alloc (.cells #[.int .i64 a.cnt, .int .i64 a.sum, .int .i64 a.mn, .int .i64 a.mx, .int .i64 a.fst, .int .i64 a.lst] 3)) fun e w' => e = .returned (.string J) ∧ Below w.heap.size w w' := fun w n hn => by
    rw [hJ, hn]
    exact (l02Join_any w.heap.size 0 6 a.nums (w.alloc (.cells #[.int .i64 a.cnt, .int .i64 a.sum, .int .i64 a.mn, .int .i64 a.mx, .int .i64 a.fst, .int .i64 a.lst] 3)) (fun j h => nums_at w a _ j h) (by simp) (by simp [GAgg.nums]) (fit_nums ha)).mono fun e w' ⟨he, hb⟩ => ⟨he, (bal (Below.refl _ _) _).trans (hb.mono (by simp))⟩
  rw [← hJ]
  clear hJ ha
  have Hk := Lib.hid key; clear key
  go_enter Tryz.func124, Tryz.ntmps124
  go_wp2_with fail
  refine (Hk.out (w.alloc _) _ (by simp)).mono ?_
  rintro e w2 ⟨rfl, hb2⟩
  go_wp2
  go_ret
  exact ⟨rfl, (bal (Below.refl _ _) _).trans (hb2.mono (by simp))⟩

end Go.Proofs.YtjmfffmjfbpgjaaGreatDoor

/- Contracts of RecordText of both packages. Conditions: the library's table of powers of ten, the program's table of paths are as their texts lay them; a text's length. -/
namespace Go.Proofs.YtjmfffmjfbpgjaaGreatDoor
open Go.ChangeShapes Go.WideShapes Go.ChangeAt Go.RowKit Go.Deep Go.Joins
set_option linter.unusedVariables false
set_option linter.unusedSimpArgs false

theorem numsText5_any (r : GRec) (hf : ∀ n ∈ r.nums, I64 n) (w : World) (ht : Pow w) : Calls Tryz.prog 162 #[.slice (some ⟨w.heap.size, 0, none⟩) 5 5] (w.alloc (.cells #[.int .i64 r.kind, .int .i64 r.tok, .int .i64 r.tier, .int .i64 r.beg, .int .i64 r.fin] 3)).drew fun e w' => e = .returned (.string (joinT (r.nums.map numT) comma)) ∧ Below w.heap.size w w' :=
  (numbersText_any w.heap.size 0 5 r.nums (w.alloc (.cells #[.int .i64 r.kind, .int .i64 r.tok, .int .i64 r.tier, .int .i64 r.beg, .int .i64 r.fin] 3)).drew (fun j h => (((Below.refl (w.heap.size + 1) (w.alloc (.cells #[.int .i64 r.kind, .int .i64 r.tok, .int .i64 r.tier, .int .i64 r.beg, .int .i64 r.fin] 3))).drew).cell (by simp)).trans (nums5_at w r _ j h)) (by simp) (by simp [GRec.nums]) hf (ht.below (bal (Below.refl _ _) _).drew (Nat.le_refl _))).mono fun e w' ⟨he, hb⟩ => ⟨he, (bal (Below.refl _ _) _).drew.trans (hb.mono (by simp))⟩

theorem join5_any (r : GRec) (hf : ∀ n ∈ r.nums, I64 n) (w : World) : Calls Tryz.prog 173 #[.slice (some ⟨w.heap.size, 0, none⟩) 5 5] (w.alloc (.cells #[.int .i64 r.kind, .int .i64 r.tok, .int .i64 r.tier, .int .i64 r.beg, .int .i64 r.fin] 3)).drew fun e w' => e = .returned (.string (joinT (r.nums.map numT) comma)) ∧ Below w.heap.size w w' :=
  (l02Join_any w.heap.size 0 5 r.nums (w.alloc (.cells #[.int .i64 r.kind, .int .i64 r.tok, .int .i64 r.tier, .int .i64 r.beg, .int .i64 r.fin] 3)).drew (fun j h => (((Below.refl (w.heap.size + 1) (w.alloc (.cells #[.int .i64 r.kind, .int .i64 r.tok, .int .i64 r.tier, .int .i64 r.beg, .int .i64 r.fin] 3))).drew).cell (by simp)).trans (nums5_at w r _ j h)) (by simp) (by simp [GRec.nums]) hf).mono fun e w' ⟨he, hb⟩ => ⟨he, (bal (Below.refl _ _) _).drew.trans (hb.mono (by simp))⟩

theorem nums5_size {r : GRec} (hf : ∀ n ∈ r.nums, I64 n) : (joinT (r.nums.map numT) comma).size ≤ 110 := by
  have := joinT_size comma 21 (r.nums.map numT) (fun x hx => by
    obtain ⟨n, hn, rfl⟩ := List.mem_map.1 hx
    exact numT_le (hf n hn).1 (hf n hn).2)
  rw [List.length_map, comma_size] at this
  simpa [GRec.nums] using this

theorem recordOK_b (r : GRec) (b : Bool) (h : b = true ↔ RecP r) (w : World) (hk : r.key.size ≤ 2 ^ 63 - 1) (hp : Paths w) (hz : 0 < w.heap.size) : Calls Tryz.prog 74 #[.agg #[.int .i64 r.kind, .int .i64 r.tok, .int .i64 r.tier, .int .i64 r.beg, .int .i64 r.fin, .string r.key]] w fun e w' => e = .returned (.bool b) ∧ Below w.heap.size w w' :=
  (recordOK_any r w hk hp hz).mono fun e w' ⟨b', hb', he, hB⟩ => ⟨by rw [he, Bool.eq_iff_iff.2 (hb'.trans h.symm)], hB⟩

theorem specRecordOK_b (r : GRec) (b : Bool) (h : b = true ↔ RecP r) (w : World) (hk : r.key.size ≤ 1048576) : Calls Tryz.prog 78 #[.agg #[.int .i64 r.kind, .int .i64 r.tok, .int .i64 r.tier, .int .i64 r.beg, .int .i64 r.fin, .string r.key]] w fun e w' => e = .returned (.bool b) ∧ Below w.heap.size w w' :=
  (specRecordOK_any r w hk).mono fun e w' ⟨b', hb', he, hB⟩ => ⟨by rw [he, Bool.eq_iff_iff.2 (hb'.trans h.symm)], hB⟩

theorem RecP.keyLe {r : GRec} (h : RecP r) : r.key.size ≤ 17 := by
  rcases h with ⟨_, _, _, h⟩ | ⟨_, _, _, _, _, h⟩ | ⟨_, _, _, h⟩ | ⟨_, _, h⟩ | ⟨_, _, _, _, _, h⟩
  · obtain ⟨t, n, m, h⟩ := h.key; exact isKey_size h
  · rw [h]; decide
  · obtain ⟨t, n, m, h⟩ := h.key; exact isKey_size h
  · obtain ⟨t, n, m, h⟩ := h.key; exact isKey_size h
  · obtain ⟨t, n, m, h⟩ := h; exact isKey_size h

set_option maxRecDepth 100000 in
theorem l06Text_any (r : GRec) (hf : ∀ n ∈ r.nums, I64 n) (hk : r.key.size ≤ 1048576) (w : World) : Calls Tryz.prog 161 #[.agg #[.int .i64 r.kind, .int .i64 r.tok, .int .i64 r.tier, .int .i64 r.beg, .int .i64 r.fin, .string r.key]] w fun e w' => e = .returned (.string (recT r)) ∧ Below w.heap.size w w' := by
  obtain ⟨J, hJ⟩ : ∃ J, J = joinT (r.nums.map numT) comma := ⟨_, rfl⟩
  have hz := nums5_size hf
  have key := fun (W : World) => join5_any r hf W
  have hT : recT r = J ++ ⟨#[32]⟩ ++ r.key := by rw [hJ]; rfl
  rw [← hJ] at hz
  simp only [← hJ] at key
  have z3 : ¬ 9223372036854775807 < J.size + 1 := by omega
  have z4 : ¬ 9223372036854775807 < J.size + 1 + r.key.size := by omega
  have HT := Lib.hid hT
  have Hk := Lib.hid key
  clear key hT hf hJ hz
  go_enter Tryz.func161, Tryz.ntmps161
  go_wp2_with fail
  have c0 := (RecAt.new w r 44).cells
  have b0 : Below w.heap.size w (w.alloc (.cells #[.int .i64 r.kind, .int .i64 r.tok, .int .i64 r.tier, .int .i64 r.beg, .int .i64 r.fin, .string r.key] 44)) := bal (Below.refl _ _) _
  have s0 : w.heap.size < (w.alloc (.cells #[.int .i64 r.kind, .int .i64 r.tok, .int .i64 r.tier, .int .i64 r.beg, .int .i64 r.fin, .string r.key] 44)).heap.size := by simp
  have RA := Lib.hid (RecAt.new w r 44)
  generalize w.alloc (.cells #[.int .i64 r.kind, .int .i64 r.tok, .int .i64 r.tier, .int .i64 r.beg, .int .i64 r.fin, .string r.key] 44) = W at *
  go_region_held3 (fun w' => w'.cell? ⟨w.heap.size, 0, none⟩ = some (.int .i64 r.kind) ∧ w'.cell? ⟨w.heap.size, 1, none⟩ = some (.int .i64 r.tok) ∧ w'.cell? ⟨w.heap.size, 2, none⟩ = some (.int .i64 r.tier) ∧ w'.cell? ⟨w.heap.size, 3, none⟩ = some (.int .i64 r.beg) ∧ w'.cell? ⟨w.heap.size, 4, none⟩ = some (.int .i64 r.fin) ∧ w'.cell? ⟨w.heap.size, 5, none⟩ = some (.string r.key)) (first | exact c0 | exact (RA.out.below hb1 s0).cells | (go_keep; done))
    (first | (go_at_call 173; refine (Hk.out W).mono ?_; rintro e w1 ⟨rfl, hb1⟩))
  have b2 := bnext b0 hb1
  clear hb1 c0 RA
  go_wp2
  go_ret
  exact ⟨by rw [HT.out]; rfl, b2⟩

set_option maxRecDepth 100000 in
theorem recordText_any (r : GRec) (hf : r.fit) (w : World) (hk : r.key.size ≤ 2 ^ 63 - 1) (hp : Paths w) (hz : 0 < w.heap.size) (ht : Pow w) : Calls Tryz.prog 109 #[.agg #[.int .i64 r.kind, .int .i64 r.tok, .int .i64 r.tier, .int .i64 r.beg, .int .i64 r.fin, .string r.key]] w fun e w' => ∃ s cd, e = .returned (.tuple #[.string s, .int .i64 cd]) ∧ RecTextOf r s cd ∧ Below w.heap.size w w' := by
  have hn := fit_nums5 ⟨hf.1, hf.2.1, hf.2.2.1, hf.2.2.2.1, hf.2.2.2.2.1⟩
  have HP : Hid (∀ w', Below w.heap.size w w' → Paths w' ∧ 0 < w'.heap.size ∧ Pow w') := Lib.hid (fun w' h => ⟨hp.below h hz, Nat.lt_of_lt_of_le hz h.size, ht.below h (Nat.le_refl _)⟩)
  clear hp ht
  by_cases hp : RecP r
  · have h17 := hp.keyLe
    have hT : recT r = joinT (r.nums.map numT) comma ++ ⟨#[32]⟩ ++ r.key := rfl
    have hz := nums5_size hn
    have key := fun (W : World) (h : Below w.heap.size w W) => numsText5_any r hn W (HP.out W h).2.2
    obtain ⟨J, hJ⟩ : ∃ J, J = joinT (r.nums.map numT) comma := ⟨_, rfl⟩
    rw [← hJ] at hz hT
    simp only [← hJ] at key
    have z3 : ¬ 9223372036854775807 < J.size + 1 := by omega
    have z4 : ¬ 9223372036854775807 < J.size + 1 + r.key.size := by omega
    have HT := Lib.hid hT
    have Hk := Lib.hid key
    have Hp := Lib.hid hp
    clear key hT hn hJ hz hp h17
    go_enter Tryz.func109, Tryz.ntmps109
    go_wp2_with fail
    have b00 : Below w.heap.size w (w.alloc (.cells #[.int .i64 r.kind, .int .i64 r.tok, .int .i64 r.tier, .int .i64 r.beg, .int .i64 r.fin, .string r.key] 44)) := bal (Below.refl _ _) _
    refine (recordOK_b r true (by simp [Hp.out]) _ hk (HP.out _ b00).1 (HP.out _ b00).2.1).mono ?_
    rintro e w1 ⟨rfl, hb1⟩
    have b0 : Below w.heap.size w w1 := (bal (Below.refl _ _) _).trans (hb1.mono (by simp))
    have RA := Lib.hid ((RecAt.new w r 44).below hb1 (by simp))
    have s0 : w.heap.size < w1.heap.size := by have := hb1.size; simp at this; omega
    have c0 := RA.out.cells
    clear hb1 b00
    go_wp2_with fail
    go_region_held3 (fun w' => w'.cell? ⟨w.heap.size, 0, none⟩ = some (.int .i64 r.kind) ∧ w'.cell? ⟨w.heap.size, 1, none⟩ = some (.int .i64 r.tok) ∧ w'.cell? ⟨w.heap.size, 2, none⟩ = some (.int .i64 r.tier) ∧ w'.cell? ⟨w.heap.size, 3, none⟩ = some (.int .i64 r.beg) ∧ w'.cell? ⟨w.heap.size, 4, none⟩ = some (.int .i64 r.fin) ∧ w'.cell? ⟨w.heap.size, 5, none⟩ = some (.string r.key)) (first | exact c0 | exact (RA.out.below hb2 s0).cells | (go_keep; done))
      (first | (go_at_call 162; refine (Hk.out w1 b0).mono ?_; rintro e w2 ⟨rfl, hb2⟩))
    have b2 := bnext b0 hb2
    clear hb2 c0 RA
    go_wp2
    refine bodyPost_ret (v := .tuple #[.string (recT r), .int .i64 0]) (by rw [HT.out]; simp [results, Tryz.results109, go_sem]) rfl ⟨recT r, 0, rfl, Or.inl ⟨Hp.out, rfl, rfl⟩, b2⟩
  · have Hp := Lib.hid hp; clear hp
    go_enter Tryz.func109, Tryz.ntmps109
    go_wp2_with fail
    have b00 : Below w.heap.size w (w.alloc (.cells #[.int .i64 r.kind, .int .i64 r.tok, .int .i64 r.tier, .int .i64 r.beg, .int .i64 r.fin, .string r.key] 44)) := bal (Below.refl _ _) _
    refine (recordOK_b r false (by simp [Hp.out]) _ hk (HP.out _ b00).1 (HP.out _ b00).2.1).mono ?_
    rintro e w1 ⟨rfl, hb1⟩
    have b1 : Below w.heap.size w w1 := (bal (Below.refl _ _) _).trans (hb1.mono (by simp))
    clear hb1
    go_wp2
    refine bodyPost_ret (v := .tuple #[.string ⟨#[]⟩, .int .i64 1]) (by simp [results, Tryz.results109, go_sem]) rfl ⟨⟨#[]⟩, 1, rfl, Or.inr ⟨Hp.out, rfl, rfl⟩, b1⟩

end Go.Proofs.YtjmfffmjfbpgjaaGreatDoor

/- Reading a record's text: what the parts at the first blank say of it; a record's variable of zeros. No Go text is walked here. -/
namespace Go.Proofs.YtjmfffmjfbpgjaaGreatDoor
open Go.ChangeShapes Go.WideShapes Go.ChangeAt Go.RowKit Go.Deep Go.Joins
set_option linter.unusedVariables false
set_option linter.unusedSimpArgs false

theorem sixT_digR {b : UInt8} {n : Nat} (h : b ∈ (sixT n).data.toList) : keyB (b.toNat : Int) = true := by
  have one : ∀ k : Nat, k < 10 → keyB ((UInt8.ofNat (48 + k)).toNat : Int) = true := by
    intro k hk
    have : (UInt8.ofNat (48 + k)).toNat = 48 + k := by simp; omega
    rw [this]
    simp only [keyB, decide_eq_true_eq]
    omega
  simp only [sixT, List.mem_cons, List.not_mem_nil, or_false] at h
  rcases h with rfl | rfl | rfl | rfl | rfl | rfl <;> exact one _ (Nat.mod_lt _ (by omega))

theorem key_noblank {key : ByteArray} {t n m : Int} (h : IsKey key t n m) : (32 : UInt8) ∉ key.data.toList := by
  have hk := (key_list h).1
  rw [hk]
  have h6 : ∀ k : Nat, (32 : UInt8) ∉ sixL k := fun k hm => by
    have := sixT_digR (n := k) hm
    revert this; decide
  have hp : ∀ k, (32 : UInt8) ∉ pathL k := fun k => by
    match k with
    | 0 => decide
    | 1 => decide
    | _ + 2 =>
      show (32 : UInt8) ∉ pathL 2
      decide
  intro hm
  rcases List.mem_append.1 hm with hm | hm
  · exact hp _ hm
  rcases List.mem_append.1 hm with hm | hm
  · exact h6 _ hm
  rcases List.mem_append.1 hm with hm | hm
  · revert hm; decide
  · exact h6 _ hm

theorem RecP.noblank {r : GRec} (h : RecP r) : (32 : UInt8) ∉ r.key.data.toList := by
  rcases h with ⟨_, _, _, h⟩ | ⟨_, _, _, _, _, h⟩ | ⟨_, _, _, h⟩ | ⟨_, _, h⟩ | ⟨_, _, _, _, _, h⟩
  · obtain ⟨t, n, m, h⟩ := h.key; exact key_noblank h
  · rw [h]; intro h; cases h
  · obtain ⟨t, n, m, h⟩ := h.key; exact key_noblank h
  · obtain ⟨t, n, m, h⟩ := h.key; exact key_noblank h
  · obtain ⟨t, n, m, h⟩ := h; exact key_noblank h

theorem recT_cut {r : GRec} (h : RecP r) : CutOf (recT r) 32 [joinT (r.nums.map numT) comma] r.key :=
  ⟨by rw [recT_list]; simp [flatC], fun p hp => by simp at hp; subst hp; exact head_noblank r, h.noblank⟩

/-- a text that is not two parts is no record's -/
theorem noRec_cut {t : ByteArray} {ps : List ByteArray} {last : ByteArray} (h : CutOf t 32 ps last) (hn : ps.length ≠ 1) : NoRec t := by
  rintro r ⟨hp, rfl⟩
  obtain ⟨e, _⟩ := CutOf.one (t := recT r) (recT_cut hp) h
  rw [← e] at hn
  exact hn rfl

theorem recRead_cut {t p last : ByteArray} {r : GRec} (h : CutOf t 32 [p] last) (hr : RecRead t r) : NumsOf p 44 r.nums ∧ r.key = last := by
  obtain ⟨hp, rfl⟩ := hr
  obtain ⟨e, e2⟩ := CutOf.one (t := recT r) (recT_cut hp) h
  simp at e
  exact ⟨e ▸ nums5_of r, e2⟩

theorem noRec_nums {t p last : ByteArray} (h : CutOf t 32 [p] last) (hno : ∀ ms, ms.length = 5 → (∀ m ∈ ms, Small m) → ¬ NumsOf p 44 ms) : NoRec t := fun r hr =>
  hno r.nums rfl (recP_small hr.1) (recRead_cut h hr).1

theorem noRec_bad {t p : ByteArray} {r : GRec} (h : CutOf t 32 [p] r.key) (hN : NumsOf p 44 r.nums) (hf : ∀ n ∈ r.nums, FitI n) (hp : ¬ RecP r) : NoRec t := fun s hs => by
  obtain ⟨h1, h2⟩ := recRead_cut h hs
  have := nums_one comma_no hN h1 hf (fun n hn => small_fitI (recP_small hs.1 n hn))
  apply hp
  obtain ⟨a0, a1, a2, a3, a4, a5⟩ := r
  obtain ⟨b0, b1, b2, b3, b4, b5⟩ := s
  simp [GRec.nums] at this h2
  obtain ⟨rfl, rfl, rfl, rfl, rfl⟩ := this
  subst h2
  exact hs.1

theorem recRead_ok {t p : ByteArray} {r : GRec} (h : CutOf t 32 [p] r.key) (hN : NumsOf p 44 r.nums) (hp : RecP r) : RecRead t r :=
  ⟨hp, recRead_of (b := r.key) (by rw [h.1]; simp [flatC]) hN rfl⟩

/-- what the model's reading of a record's text answers -/
def RecRd (t : ByteArray) (r : GRec) (b : Bool) : Prop := (b = true ∧ RecRead t r) ∨ (b = false ∧ r = zRec ∧ NoRec t)

theorem five_list {ns : List Int} (h : ns.length = 5) (key : ByteArray) : ∃ r : GRec, r.nums = ns ∧ r.key = key := by
  match ns, h with
  | [a, b, c, d, e], _ => exact ⟨⟨a, b, c, d, e, key⟩, rfl, rfl⟩

theorem nums_cells5 {w : World} {B b o : Nat} {r : GRec} (h : Sl niV 1 w B (some ⟨b, o, none⟩) r.nums) : (w.cell? ⟨b, o, none⟩ = some (.int .i64 r.kind) ∧ w.cell? ⟨b, o + 1, none⟩ = some (.int .i64 r.tok) ∧ w.cell? ⟨b, o + 2, none⟩ = some (.int .i64 r.tier) ∧ w.cell? ⟨b, o + 3, none⟩ = some (.int .i64 r.beg) ∧ w.cell? ⟨b, o + 4, none⟩ = some (.int .i64 r.fin)) ∧ b < B := by
  obtain ⟨b', o', e, hb, hc⟩ := h (by simp [GRec.nums])
  injection e with e
  injection e with e1 e2
  subst e1 e2
  exact ⟨⟨hc 0 (by simp [GRec.nums]) 0 _ rfl, hc 1 (by simp [GRec.nums]) 0 _ rfl, hc 2 (by simp [GRec.nums]) 0 _ rfl, hc 3 (by simp [GRec.nums]) 0 _ rfl, hc 4 (by simp [GRec.nums]) 0 _ rfl⟩, hb⟩

/-- a record's variable, of zeros, in block x -/
def ZeroR (w : World) (x : Nat) : Prop := RecAt w x zRec ∧ Free w (some ⟨x, 0, none⟩) ∧ x < w.heap.size

theorem ZeroR.new (w : World) (t : TypeId) : ZeroR (w.alloc (.cells #[.int .i64 0, .int .i64 0, .int .i64 0, .int .i64 0, .int .i64 0, .string ⟨#[]⟩] t)) w.heap.size := ⟨RecAt.new w zRec t, free_alloc w _ t 0, by simp⟩

theorem ZeroR.below {w w' : World} {x B : Nat} (h : ZeroR w x) (hb : Below B w w') (hB : x < B) : ZeroR w' x :=
  ⟨h.1.below hb hB, h.2.1.below hb (fun b e => by simp [blk] at e; omega), Nat.lt_of_lt_of_le h.2.2 hb.size⟩

theorem ZeroR.grown {w w' : World} {x : Nat} {row : Option Nat} (h : ZeroR w x) (hg : w.grownBy w' row) (hr : some x ≠ row) : ZeroR w' x := by
  have hblk := hg.block x h.2.2 hr
  refine ⟨fun j v hv => (World.cell?_of_block (a := ⟨x, 0 + j, none⟩) hblk).trans (h.1 j v hv), fun b e i => ?_, Nat.lt_of_lt_of_le h.2.2 hg.size⟩
  simp [blk] at e
  subst e
  exact (World.frozen?_of_block (a := ⟨x, i, none⟩) hblk).trans (h.2.1 x rfl i)

theorem ZeroR.cells {w : World} {n : Nat} (h : ZeroR w n) : (w.cell? ⟨n, 0, none⟩ = some (.int .i64 0) ∧ w.cell? ⟨n, 1, none⟩ = some (.int .i64 0) ∧ w.cell? ⟨n, 2, none⟩ = some (.int .i64 0) ∧ w.cell? ⟨n, 3, none⟩ = some (.int .i64 0) ∧ w.cell? ⟨n, 4, none⟩ = some (.int .i64 0) ∧ w.cell? ⟨n, 5, none⟩ = some (.string ⟨#[]⟩)) ∧
    w.frozen? ⟨n, 0, none⟩ = false ∧ w.frozen? ⟨n, 1, none⟩ = false ∧ w.frozen? ⟨n, 2, none⟩ = false ∧ w.frozen? ⟨n, 3, none⟩ = false ∧ w.frozen? ⟨n, 4, none⟩ = false ∧ w.frozen? ⟨n, 5, none⟩ = false :=
  ⟨h.1.cells, h.2.1 _ rfl 0, h.2.1 _ rfl 1, h.2.1 _ rfl 2, h.2.1 _ rfl 3, h.2.1 _ rfl 4, h.2.1 _ rfl 5⟩

theorem Cells.setK {w : World} {b o : Nat} {vs : List Value} (h : Cells w b o vs) {k : Nat} (hk : k < vs.length) (u : Value) : Cells (w.setCell ⟨b, o + k, none⟩ u) b o (vs.set k u) := fun j v hv => by
  by_cases e : k = j
  · subst e
    rw [List.getElem?_set_self hk] at hv
    cases hv
    exact cset_eq _ _ _ _ (h k vs[k] (List.getElem?_eq_getElem hk))
  · rw [List.getElem?_set_ne e] at hv
    exact (cset_ne _ _ _ _ _ (by omega)).trans (h j v hv)

theorem setRec_below {B x : Nat} {a w : World} (h : Below B a w) (hx : B ≤ x) (v0 v1 v2 v3 v4 v5 : Value) : Below B a ((((((w.setCell ⟨x, 0, none⟩ v0).setCell ⟨x, 1, none⟩ v1).setCell ⟨x, 2, none⟩ v2).setCell ⟨x, 3, none⟩ v3).setCell ⟨x, 4, none⟩ v4).setCell ⟨x, 5, none⟩ v5) :=
  (((((h.setCell hx _).setCell hx _).setCell hx _).setCell hx _).setCell hx _).setCell hx _

end Go.Proofs.YtjmfffmjfbpgjaaGreatDoor

/- Contracts of the model's l06Read and ReadRecord: just the text of a right record is read. Conditions: a text's length. -/
namespace Go.Proofs.YtjmfffmjfbpgjaaGreatDoor
open Go.ChangeShapes Go.WideShapes Go.ChangeAt Go.RowKit Go.Deep Go.Joins
set_option linter.unusedVariables false
set_option linter.unusedSimpArgs false

set_option maxRecDepth 100000 in
set_option maxHeartbeats 16000000 in
theorem l06Read_any (t : ByteArray) (w : World) (ht : t.size ≤ 1000000) : Calls Tryz.prog 71 #[.string t] w fun e w' => ∃ r b, e = .returned (.tuple #[.agg #[.int .i64 r.kind, .int .i64 r.tok, .int .i64 r.tier, .int .i64 r.beg, .int .i64 r.fin, .string r.key], .bool b]) ∧ RecRd t r b ∧ Below w.heap.size w w' := by
  go_enter Tryz.func71, Tryz.ntmps71
  go_wp2_with fail
  have hZ := ZeroR.new w 44
  have hbw : Below w.heap.size w (w.alloc (.cells #[.int .i64 0, .int .i64 0, .int .i64 0, .int .i64 0, .int .i64 0, .string ⟨#[]⟩] 44)) := bal (Below.refl _ _) _
  generalize w.alloc (.cells #[.int .i64 0, .int .i64 0, .int .i64 0, .int .i64 0, .int .i64 0, .string ⟨#[]⟩] 44) = w0 at *
  generalize hx0 : w.heap.size = x0 at *
  have Hx0 := Lib.hid hx0; clear hx0
  have HZ := Lib.hid hZ; clear hZ
  refine (l00Cut_any t 32 w0 (by omega)).mono ?_
  rintro e w1 ⟨A1, k1, ps, last, rfl, hO, hC, hb1⟩
  have b1 : Below x0 w w1 := hbw.trans (hb1.mono (Nat.le_of_lt HZ.out.2.2))
  have HZ1 := Lib.hid (HZ.out.below hb1 HZ.out.2.2)
  have hx1 : x0 < w1.heap.size := HZ1.out.2.2
  clear HZ hbw hb1
  by_cases hp1 : ps.length = 1
  rotate_left
  · have HR := Lib.hid (show RecRd t zRec false from Or.inr ⟨rfl, rfl, noRec_cut hC hp1⟩)
    have d : (((ps.length + 1 : Nat) : Int) != 2) = true := by simp; omega
    have d' : ((ps.length : Int) + 1 != 2) = true := by simp; omega
    clear hC hO hp1
    obtain ⟨⟨z0, z1, z2, z3, z4, z5⟩, y0, y1, y2, y3, y4, y5⟩ := HZ1.out.cells
    go_wp2
    refine bodyPost_ret (v := .tuple #[.agg #[.int .i64 0, .int .i64 0, .int .i64 0, .int .i64 0, .int .i64 0, .string ⟨#[]⟩], .bool false]) (by simp [results, Tryz.results71, go_sem, *]) rfl ⟨zRec, false, rfl, HR.out, ?_⟩
    rw [Hx0.out]
    exact setRec_below b1 (Nat.le_refl _) _ _ _ _ _ _
  obtain ⟨p, rfl⟩ : ∃ p, ps = [p] := by
    match ps, hp1 with
    | [p], _ => exact ⟨p, rfl⟩
  obtain ⟨hsl, _, _, _⟩ := OwnSl.sl (xs := [p] ++ [last]) hO (fun x => rfl)
  obtain ⟨bw, ow, rfl, hbw, hcl0⟩ := Sl.at_ hsl (k := 0) (by simp)
  obtain ⟨bw', ow', e', _, hcl1⟩ := Sl.at_ hsl (k := 1) (by simp)
  injection e' with e'
  injection e' with e1 e2
  subst e1 e2
  have q0 : w1.cell? ⟨bw, ow, none⟩ = some (.string p) := by
    have := hcl0 0 (.string p) rfl
    simpa using this
  have q1 : w1.cell? ⟨bw, ow + 1, none⟩ = some (.string last) := by
    have := hcl1 0 (.string last) rfl
    simpa using this
  have hps : p.size ≤ t.size ∧ last.size ≤ t.size := ⟨(cut_len hC).1 p (by simp), (cut_len hC).1 last (by simp)⟩
  have HC := Lib.hid hC
  clear hC hO hp1 hsl hcl0 hcl1
  go_wp2_with fail
  refine (l02Numbers_any p 44 5 w1 comma_no (by omega)).mono ?_
  rintro e w2 ⟨A, k, ns, b, rfl, hN, hO, hb2⟩
  have b2 : Below x0 w w2 := b1.trans (hb2.mono (Nat.le_of_lt hx1))
  have HZ2 := Lib.hid (HZ1.out.below hb2 hx1)
  have qk : w2.cell? ⟨bw, ow + 1, none⟩ = some (.string last) := (hb2.cell hbw).trans q1
  clear HZ1 b1 q0 q1
  rcases hN with ⟨rfl, h6, hN, hf⟩ | ⟨rfl, hno⟩
  · obtain ⟨r, hr, hk⟩ := five_list h6 last
    subst hr hk
    obtain ⟨hsl, _, hbk, _⟩ := OwnSl.sl hO (fun x => rfl)
    obtain ⟨b, o, rfl, _, _⟩ := hsl (by simp [GRec.nums])
    obtain ⟨hq, hbl⟩ := nums_cells5 hsl
    have Q := Lib.hid hq
    have HN := Lib.hid hN; clear hN
    have HF := Lib.hid hf; clear hf
    have HKL := Lib.hid (show r.key.size ≤ 1000000 by omega)
    have e6 : r.nums.length = 5 := rfl
    rw [e6]
    clear hsl hbk hO h6 hb2 e6 hps
    by_cases hp : RecP r
    · have Hp := Lib.hid hp; clear hp
      obtain ⟨q0, q1, q2, q3, q4⟩ := hq
      have HR := Lib.hid (show RecRd t r true from Or.inl ⟨rfl, recRead_ok HC.out HN.out Hp.out⟩)
      clear HN HF
      go_wp2_with fail
      go_region_held3 (fun w' => (w'.cell? ⟨b, o, none⟩ = some (.int .i64 r.kind) ∧ w'.cell? ⟨b, o + 1, none⟩ = some (.int .i64 r.tok) ∧ w'.cell? ⟨b, o + 2, none⟩ = some (.int .i64 r.tier) ∧ w'.cell? ⟨b, o + 3, none⟩ = some (.int .i64 r.beg) ∧ w'.cell? ⟨b, o + 4, none⟩ = some (.int .i64 r.fin)) ∧ w'.cell? ⟨bw, ow + 1, none⟩ = some (.string r.key)) (first | exact ⟨Q.out, qk⟩ | (go_keep; done)) (fail)
      have hS2 : RecAt (w2.alloc (.cells #[.int .i64 r.kind, .int .i64 r.tok, .int .i64 r.tier, .int .i64 r.beg, .int .i64 r.fin, .string r.key] 44)).drew w2.heap.size r := (RecAt.new w2 r _).below ((Below.refl (w2.heap.size + 1) _).drew) (by omega)
      have hB2 : Below w2.heap.size w2 (w2.alloc (.cells #[.int .i64 r.kind, .int .i64 r.tok, .int .i64 r.tier, .int .i64 r.beg, .int .i64 r.fin, .string r.key] 44)).drew := (bal (Below.refl _ _) _).drew
      have hL2 : w2.heap.size < (w2.alloc (.cells #[.int .i64 r.kind, .int .i64 r.tok, .int .i64 r.tier, .int .i64 r.beg, .int .i64 r.fin, .string r.key] 44)).drew.heap.size := by simp
      clear Q qk
      generalize (w2.alloc (.cells #[.int .i64 r.kind, .int .i64 r.tok, .int .i64 r.tier, .int .i64 r.beg, .int .i64 r.fin, .string r.key] 44)).drew = w3 at *
      have HZ3 := Lib.hid (HZ2.out.below hB2 HZ2.out.2.2)
      have b3 : Below x0 w w3 := b2.trans (hB2.mono (Nat.le_of_lt HZ2.out.2.2))
      have hx2 : x0 < w2.heap.size := HZ2.out.2.2
      clear hB2 b2 HZ2
      generalize w2.heap.size = y0 at *
      have HS3 := Lib.hid hS2
      obtain ⟨s0, s1, s2, s3, s4, s5⟩ := hS2.cells
      clear hS2
      go_wp2_with fail
      refine (specRecordOK_b r true (by simp [Hp.out]) w3 (by have := HKL.out; omega)).mono ?_
      rintro e w4 ⟨rfl, hb4⟩
      have HZ4 := HZ3.out.below hb4 HZ3.out.2.2
      have b4 : Below x0 w w4 := b3.trans (hb4.mono (Nat.le_of_lt HZ3.out.2.2))
      have hx4 : x0 < w4.heap.size := HZ4.2.2
      have hS4 := HS3.out.below hb4 hL2
      obtain ⟨⟨z0, z1, z2, z3, z4, z5⟩, y0, y1, y2, y3, y4, y5⟩ := HZ4.cells
      clear HZ3 HS3 hb4 b3 s0 s1 s2 s3 s4 s5 HZ4
      obtain ⟨s0, s1, s2, s3, s4, s5⟩ := hS4.cells
      clear hS4
      go_wp2
      refine bodyPost_ret (v := .tuple #[.agg #[.int .i64 r.kind, .int .i64 r.tok, .int .i64 r.tier, .int .i64 r.beg, .int .i64 r.fin, .string r.key], .bool true]) (by simp [results, Tryz.results71, go_sem, *]) rfl ⟨r, true, rfl, HR.out, ?_⟩
      rw [Hx0.out]
      exact setRec_below b4 (Nat.le_refl _) _ _ _ _ _ _
    · have Hp := Lib.hid hp; clear hp
      obtain ⟨q0, q1, q2, q3, q4⟩ := hq
      have HR := Lib.hid (show RecRd t zRec false from Or.inr ⟨rfl, rfl, noRec_bad HC.out HN.out HF.out Hp.out⟩)
      clear HN HF
      go_wp2_with fail
      go_region_held3 (fun w' => (w'.cell? ⟨b, o, none⟩ = some (.int .i64 r.kind) ∧ w'.cell? ⟨b, o + 1, none⟩ = some (.int .i64 r.tok) ∧ w'.cell? ⟨b, o + 2, none⟩ = some (.int .i64 r.tier) ∧ w'.cell? ⟨b, o + 3, none⟩ = some (.int .i64 r.beg) ∧ w'.cell? ⟨b, o + 4, none⟩ = some (.int .i64 r.fin)) ∧ w'.cell? ⟨bw, ow + 1, none⟩ = some (.string r.key)) (first | exact ⟨Q.out, qk⟩ | (go_keep; done)) (fail)
      have hS2 : RecAt (w2.alloc (.cells #[.int .i64 r.kind, .int .i64 r.tok, .int .i64 r.tier, .int .i64 r.beg, .int .i64 r.fin, .string r.key] 44)).drew w2.heap.size r := (RecAt.new w2 r _).below ((Below.refl (w2.heap.size + 1) _).drew) (by omega)
      have hB2 : Below w2.heap.size w2 (w2.alloc (.cells #[.int .i64 r.kind, .int .i64 r.tok, .int .i64 r.tier, .int .i64 r.beg, .int .i64 r.fin, .string r.key] 44)).drew := (bal (Below.refl _ _) _).drew
      have hL2 : w2.heap.size < (w2.alloc (.cells #[.int .i64 r.kind, .int .i64 r.tok, .int .i64 r.tier, .int .i64 r.beg, .int .i64 r.fin, .string r.key] 44)).drew.heap.size := by simp
      clear Q qk
      generalize (w2.alloc (.cells #[.int .i64 r.kind, .int .i64 r.tok, .int .i64 r.tier, .int .i64 r.beg, .int .i64 r.fin, .string r.key] 44)).drew = w3 at *
      have HZ3 := Lib.hid (HZ2.out.below hB2 HZ2.out.2.2)
      have b3 : Below x0 w w3 := b2.trans (hB2.mono (Nat.le_of_lt HZ2.out.2.2))
      have hx2 : x0 < w2.heap.size := HZ2.out.2.2
      clear hB2 b2 HZ2
      generalize w2.heap.size = y0 at *
      have HS3 := Lib.hid hS2
      obtain ⟨s0, s1, s2, s3, s4, s5⟩ := hS2.cells
      clear hS2
      go_wp2_with fail
      refine (specRecordOK_b r false (by simp [Hp.out]) w3 (by have := HKL.out; omega)).mono ?_
      rintro e w4 ⟨rfl, hb4⟩
      have HZ4 := HZ3.out.below hb4 HZ3.out.2.2
      have b4 : Below x0 w w4 := b3.trans (hb4.mono (Nat.le_of_lt HZ3.out.2.2))
      have hx4 : x0 < w4.heap.size := HZ4.2.2
      have hS4 := HS3.out.below hb4 hL2
      obtain ⟨⟨z0, z1, z2, z3, z4, z5⟩, y0, y1, y2, y3, y4, y5⟩ := HZ4.cells
      clear HZ3 HS3 hb4 b3 s0 s1 s2 s3 s4 s5 HZ4
      obtain ⟨s0, s1, s2, s3, s4, s5⟩ := hS4.cells
      clear hS4
      go_wp2
      refine bodyPost_ret (v := .tuple #[.agg #[.int .i64 0, .int .i64 0, .int .i64 0, .int .i64 0, .int .i64 0, .string ⟨#[]⟩], .bool false]) (by simp [results, Tryz.results71, go_sem, *]) rfl ⟨zRec, false, rfl, HR.out, ?_⟩
      rw [Hx0.out]
      exact setRec_below b4 (Nat.le_refl _) _ _ _ _ _ _
  · have HR := Lib.hid (show RecRd t zRec false from Or.inr ⟨rfl, rfl, noRec_nums HC.out hno⟩)
    have hx2 : x0 < w2.heap.size := HZ2.out.2.2
    clear hno hO hb2 qk
    obtain ⟨⟨z0, z1, z2, z3, z4, z5⟩, y0, y1, y2, y3, y4, y5⟩ := HZ2.out.cells
    go_wp2
    refine bodyPost_ret (v := .tuple #[.agg #[.int .i64 0, .int .i64 0, .int .i64 0, .int .i64 0, .int .i64 0, .string ⟨#[]⟩], .bool false]) (by simp [results, Tryz.results71, go_sem, *]) rfl ⟨zRec, false, rfl, HR.out, ?_⟩
    rw [Hx0.out]
    exact setRec_below b2 (Nat.le_refl _) _ _ _ _ _ _

set_option maxRecDepth 100000 in
theorem specReadRecord_any (t : ByteArray) (w : World) (ht : t.size ≤ 2 ^ 63 - 1) : Calls Tryz.prog 23 #[.string t] w fun e w' => ∃ r cd, e = .returned (.tuple #[.agg #[.int .i64 r.kind, .int .i64 r.tok, .int .i64 r.tier, .int .i64 r.beg, .int .i64 r.fin, .string r.key], .int .i64 cd]) ∧ RecCode t r cd ∧ Below w.heap.size w w' := by
  cases hl : decide (65536 < (t.size : Int))
  · have hs : t.size ≤ 65536 := by simp at hl; omega
    go_enter Tryz.func23, Tryz.ntmps23
    go_wp2_with fail
    have hZ := ZeroR.new w 44
    have hbw : Below w.heap.size w (w.alloc (.cells #[.int .i64 0, .int .i64 0, .int .i64 0, .int .i64 0, .int .i64 0, .string ⟨#[]⟩] 44)) := bal (Below.refl _ _) _
    generalize w.alloc (.cells #[.int .i64 0, .int .i64 0, .int .i64 0, .int .i64 0, .int .i64 0, .string ⟨#[]⟩] 44) = w0 at *
    generalize hx0 : w.heap.size = x0 at *
    have Hx0 := Lib.hid hx0; clear hx0
    have HZ := Lib.hid hZ; clear hZ
    refine (l06Read_any t w0 (by omega)).mono ?_
    rintro e w1 ⟨r, b, rfl, hR, hb1⟩
    have b1 : Below x0 w w1 := hbw.trans (hb1.mono (Nat.le_of_lt HZ.out.2.2))
    have HZ1 := HZ.out.below hb1 HZ.out.2.2
    have hx1 : x0 < w1.heap.size := HZ1.2.2
    obtain ⟨⟨z0, z1, z2, z3, z4, z5⟩, y0, y1, y2, y3, y4, y5⟩ := HZ1.cells
    clear HZ hbw hb1 HZ1
    rcases hR with ⟨rfl, hR⟩ | ⟨rfl, rfl, hN⟩
    · have HR := Lib.hid (show RecCode t r 0 from Or.inr (Or.inl ⟨hs, hR, rfl⟩)); clear hR
      go_wp2
      refine bodyPost_ret (v := .tuple #[.agg #[.int .i64 r.kind, .int .i64 r.tok, .int .i64 r.tier, .int .i64 r.beg, .int .i64 r.fin, .string r.key], .int .i64 0]) (by simp [results, Tryz.results23, go_sem, *]) rfl ⟨r, 0, rfl, HR.out, ?_⟩
      rw [Hx0.out]
      exact (setRec_below b1 (Nat.le_refl _) _ _ _ _ _ _).alloc (by simp only [size_setCell]; omega) _
    · have HR := Lib.hid (show RecCode t zRec 3 from Or.inr (Or.inr ⟨hs, hN, rfl, rfl⟩)); clear hN
      go_wp2
      refine bodyPost_ret (v := .tuple #[.agg #[.int .i64 0, .int .i64 0, .int .i64 0, .int .i64 0, .int .i64 0, .string ⟨#[]⟩], .int .i64 3]) (by simp [results, Tryz.results23, go_sem, *]) rfl ⟨zRec, 3, rfl, HR.out, ?_⟩
      rw [Hx0.out]
      exact (setRec_below b1 (Nat.le_refl _) _ _ _ _ _ _).alloc (by simp only [size_setCell]; omega) _
  · have HR := Lib.hid (show RecCode t zRec 2 from Or.inl ⟨by simp at hl; omega, rfl, rfl⟩)
    go_enter Tryz.func23, Tryz.ntmps23
    go_wp2
    refine bodyPost_ret (v := .tuple #[.agg #[.int .i64 0, .int .i64 0, .int .i64 0, .int .i64 0, .int .i64 0, .string ⟨#[]⟩], .int .i64 2]) (by simp [results, Tryz.results23, go_sem]) rfl ⟨zRec, 2, rfl, HR.out, ?_⟩
    repeat' first | exact Below.refl _ _ | refine bal ?_ _ | refine bset ?_ (by simp) _

end Go.Proofs.YtjmfffmjfbpgjaaGreatDoor
