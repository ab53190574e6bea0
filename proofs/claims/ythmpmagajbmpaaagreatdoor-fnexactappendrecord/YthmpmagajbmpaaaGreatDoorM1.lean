/-
  Several texts as one: contracts that the law leans on; each part says what it proves and its conditions.
-/
import Derived.Test.YthmpmagajbmpaaaGreatDoorNumTxt
import Derived.Test.YthmpmagajbmpaaaGreatDoorAppG
import Derived.Test.YthmpmagajbmpaaaGreatDoorRecW
import Derived.Test.YthmpmagajbmpaaaGreatDoorRecD
import Derived.Test.YthmpmagajbmpaaaGreatDoorRecE
import Derived.Deep.RegionHeld3
import Derived.Test.YthmpmagajbmpaaaGreatDoorConv
import Derived.Maps.Own
import Derived.Maps.OwnOps
import Derived.Maps.OwnSet
import Derived.WalkLawsBesides
import Derived.Test.YthmpmagajbmpaaaGreatDoorHeld
import Derived.Deep.RegionLaw
import Derived.StillTailTactics
import Derived.RegionTactic
import Derived.Sort.Walk0

/- Contracts of the model's l00Join over any slice of texts, l02Join (numbers with commas between), l02Text and AggText. Conditions: none beside lengths. -/
namespace Go.Proofs.YthmpmagajbmpaaaGreatDoor
open Go.ChangeShapes Go.WideShapes Go.ChangeAt Go.RowKit
set_option linter.unusedVariables false

set_option maxRecDepth 100000 in
theorem joinNone_any (A : Option Addr) (c : Nat) (sep : ByteArray) (w : World) : Calls Tryz.prog 154 #[.slice A 0 c, .string sep] w fun e w' => e = .returned (.string (joinT [] sep)) ∧ Below w.heap.size w w' := by
  have ez := Lib.hid (joinT_nil sep)
  go_enter Tryz.func154, Tryz.ntmps154
  go_wp2_with fail
  go_loopw [5, 6] (fun t i wr => i = .int .i64 0 ∧ t = .string ⟨#[]⟩ ∧ wr = w) (fun _ i _ => 0)
  case atStart => exact ⟨rfl, rfl, rfl⟩
  case round =>
    obtain ⟨rfl, rfl, rfl⟩ := hrel
    go_wp2
    go_ret
    exact ⟨by rw [ez.out]; rfl, Below.refl _ _⟩

theorem joinA_any (A : Option Addr) (c : Nat) (xs : List ByteArray) (sep : ByteArray) (B : Nat) (w : World) (h : TxtAt w B A xs) (hB : B ≤ w.heap.size) (hl : xs.length ≤ 1048576) (hz : (joinT xs sep).size ≤ 4611686018427387904) :
    Calls Tryz.prog 154 #[.slice A xs.length c, .string sep] w fun e w' => e = .returned (.string (joinT xs sep)) ∧ Below w.heap.size w w' := by
  by_cases hx : xs = []
  · subst hx
    exact joinNone_any A c sep w
  · obtain ⟨b, o, rfl, hb, _⟩ := TxtAt.at_ h (k := 0) (by cases xs <;> simp_all)
    exact join_any b o c xs sep w (fun j hj => TxtAt.cells h j _ (List.getElem?_eq_getElem hj)) (by omega) (by omega) hz

theorem txV_one (s : ByteArray) : ∀ u ∈ txV s, u.oneCell' = true := by
  intro u hu
  simp [txV] at hu
  subst hu; rfl

theorem new_txt (w : World) (s : ByteArray) (e : TypeId) : Sl txV 1 (w.alloc (.cells #[.string s] e)) (w.heap.size + 1) (some ⟨w.heap.size, 0, none⟩) [s] := by
  intro _
  refine ⟨w.heap.size, 0, rfl, by omega, fun k hk j v hv => ?_⟩
  obtain rfl : k = 0 := by simpa using hk
  rw [World.cell?_alloc_new]
  match j, hv with
  | 0, hv => simpa [txV] using hv
  | j + 1, hv => simp [txV] at hv

set_option maxRecDepth 100000 in
theorem l02Join_any (b o c : Nat) (ns : List Int) (w : World) (hc : ∀ (j : Nat) (h : j < ns.length), w.cell? ⟨b, o + j, none⟩ = some (.int .i64 ns[j])) (hb : b < w.heap.size) (hl : ns.length ≤ 1000) (hf : ∀ n ∈ ns, I64 n) :
    Calls Tryz.prog 133 #[.slice (some ⟨b, o, none⟩) ns.length c] w fun e w' => e = .returned (.string (joinT (ns.map numT) comma)) ∧ Below w.heap.size w w' := by
  have Hc := Lib.hid hc; clear hc
  have Hf := Lib.hid hf; clear hf
  go_enter Tryz.func133, Tryz.ntmps133
  go_wp2_with fail
  have o0 : OwnSl txV 1 9 w.heap.size (w.alloc (.cells #[] 9)) (.slice (some ⟨w.heap.size, 0, none⟩) 0 0) [] := own_empty _ _ _ w
  have hbw : Below w.heap.size w (w.alloc (.cells #[] 9)) := bal (Below.refl _ _) _
  generalize w.alloc (.cells #[] 9) = w0 at o0 hbw ⊢
  have O0 := Lib.hid o0; clear o0
  go_loopw [3, 4] (fun s i wr => ∃ (j : Nat) (A : Option Addr) (c : Nat), j ≤ ns.length ∧ i = .int .i64 j ∧ s = .slice A j c ∧ Hid (OwnSl txV 1 9 w.heap.size wr (.slice A j c) ((ns.take j).map numT)) ∧ Below w.heap.size w wr) (fun _ i _ => ns.length - (intOf i).toNat)
  case atStart => exact ⟨0, _, _, by omega, rfl, rfl, O0, hbw⟩
  case round =>
    clear O0 hbw
    obtain ⟨j, A, c2, hj, rfl, rfl, HO, hb1⟩ := hrel
    by_cases hlt : j < ns.length
    · have p0 : wr.cell? ⟨b, o + j, none⟩ = some (.int .i64 ns[j]) := (hb1.cell (p := ⟨b, o + j, none⟩) hb).trans (Hc.out j hlt)
      have HI := Lib.hid (Hf.out _ (List.getElem_mem hlt))
      go_wp2_with fail
      refine (digits_int ns[j] wr HI.out.1 HI.out.2).mono ?_
      rintro e w1 ⟨rfl, hb2⟩
      have hlx : ((ns.take j).map numT).length = j := by simp; omega
      have hO4 := (HO.out.below hb2).below (bal (Below.refl _ w1) (.cells #[.string (numT ns[j])] 9))
      have en : (ns.take (j + 1)).map numT = (ns.take j).map numT ++ [numT ns[j]] := by rw [List.take_succ_eq_append_getElem hlt, List.map_append]; rfl
      have EN := Lib.hid en; clear en
      generalize numT ns[j] = T at *
      obtain ⟨xs, hxs⟩ : ∃ xs, xs = (ns.take j).map numT := ⟨_, rfl⟩
      rw [← hxs] at hlx hO4 EN
      have HO4 := Lib.hid hO4; clear hO4 hxs
      have HN := Lib.hid (new_txt w1 T 9)
      have sz : w.heap.size ≤ w1.heap.size := Nat.le_trans hb1.size hb2.size
      have hb4 : Below w.heap.size w (w1.alloc (.cells #[.string T] 9)) := bal (bnext hb1 hb2) _
      have Hb4 := Lib.hid hb4; clear hb4 hb2 p0 HO
      subst hlx
      go_wp2_with (at_builtin; refine wpList_append_sl txV 1 16 (fun _ => rfl) txV_one 110 9 _ infoStr rfl (by omega) Tryz.underlying110 rfl _ _ rfl w.heap.size xs [T] (.slice A xs.length c2) rfl HO4.out (some ⟨w1.heap.size, 0, none⟩) 1 (w1.heap.size + 1) rfl HN.out (by simp [maxLen]; omega) (by simp; omega) (by simp; omega) ?_; intro v' w5 hO5 hg5 _; obtain ⟨A5, c5, rfl⟩ := hO5.form; have HO5 := Lib.hid hO5; clear hO5; have Hg5 := Lib.hid hg5; clear hg5)
      have hb5 : Below w.heap.size w w5 := Hb4.out.trans (below_of_grown Hg5.out (by simp; omega) (fun g e => (World.ownsRow.lt HO4.out g e).1))
      have hO6 : OwnSl txV 1 9 w.heap.size w5 (.slice A5 (xs.length + 1) c5) ((ns.take (xs.length + 1)).map numT) := by
        rw [EN.out]; simpa using HO5.out
      have HO6 := Lib.hid hO6; clear hO6
      go_roundw
      case rel => exact ⟨xs.length + 1, A5, c5, by omega, by go_num, by simp, HO6, hb5⟩
      case measure => simp [intOf]; omega
    · obtain rfl : j = ns.length := by omega
      have hO := HO.out
      rw [List.take_length] at hO
      have hl2 : ns.length = (ns.map numT).length := by simp
      rw [hl2] at hO
      obtain ⟨hsl, _, _, _⟩ := OwnSl.sl hO (fun x => rfl)
      have hz : (joinT (ns.map numT) comma).size ≤ 4611686018427387904 := by
        have := joinT_size comma 21 (ns.map numT) (fun x hx => by
          obtain ⟨n, hn, rfl⟩ := List.mem_map.1 hx
          exact numT_le (Hf.out n hn).1 (Hf.out n hn).2)
        rw [List.length_map, comma_size] at this
        omega
      have hjn := joinA_any A c2 (ns.map numT) comma _ wr hsl (Nat.le_refl _) (by simp; omega) hz
      rw [← hl2] at hjn
      obtain ⟨J, hJ⟩ : ∃ J, J = joinT (ns.map numT) comma := ⟨_, rfl⟩
      rw [← hJ] at hjn
      have HJ := Lib.hid hJ; clear hJ
      have Hj := Lib.hid hjn; clear hjn hz hsl hO HO hl2
      go_wp2_with fail
      refine Hj.out.mono ?_
      rintro e w1 ⟨rfl, hb2⟩
      go_wp2
      go_ret
      exact ⟨by rw [← HJ.out]; rfl, bnext hb1 hb2⟩

end Go.Proofs.YthmpmagajbmpaaaGreatDoor

/- Contracts of RecordText of both packages. Conditions: the library's table of powers of ten, the program's table of paths are as their texts lay them; a text's length. -/
namespace Go.Proofs.YthmpmagajbmpaaaGreatDoor
open Go.ChangeShapes Go.WideShapes Go.ChangeAt Go.RowKit Go.Deep Go.Joins
set_option linter.unusedVariables false
set_option linter.unusedSimpArgs false

theorem numsText5_any (r : GRec) (hf : ∀ n ∈ r.nums, I64 n) (w : World) (ht : Pow w) : Calls Tryz.prog 94 #[.slice (some ⟨w.heap.size, 0, none⟩) 5 5] (w.alloc (.cells #[.int .i64 r.kind, .int .i64 r.tok, .int .i64 r.tier, .int .i64 r.beg, .int .i64 r.fin] 3)).drew fun e w' => e = .returned (.string (joinT (r.nums.map numT) comma)) ∧ Below w.heap.size w w' :=
  (numbersText_any w.heap.size 0 5 r.nums (w.alloc (.cells #[.int .i64 r.kind, .int .i64 r.tok, .int .i64 r.tier, .int .i64 r.beg, .int .i64 r.fin] 3)).drew (fun j h => (((Below.refl (w.heap.size + 1) (w.alloc (.cells #[.int .i64 r.kind, .int .i64 r.tok, .int .i64 r.tier, .int .i64 r.beg, .int .i64 r.fin] 3))).drew).cell (by simp)).trans (nums5_at w r _ j h)) (by simp) (by simp [GRec.nums]) hf (ht.below (bal (Below.refl _ _) _).drew (Nat.le_refl _))).mono fun e w' ⟨he, hb⟩ => ⟨he, (bal (Below.refl _ _) _).drew.trans (hb.mono (by simp))⟩

theorem join5_any (r : GRec) (hf : ∀ n ∈ r.nums, I64 n) (w : World) : Calls Tryz.prog 133 #[.slice (some ⟨w.heap.size, 0, none⟩) 5 5] (w.alloc (.cells #[.int .i64 r.kind, .int .i64 r.tok, .int .i64 r.tier, .int .i64 r.beg, .int .i64 r.fin] 3)).drew fun e w' => e = .returned (.string (joinT (r.nums.map numT) comma)) ∧ Below w.heap.size w w' :=
  (l02Join_any w.heap.size 0 5 r.nums (w.alloc (.cells #[.int .i64 r.kind, .int .i64 r.tok, .int .i64 r.tier, .int .i64 r.beg, .int .i64 r.fin] 3)).drew (fun j h => (((Below.refl (w.heap.size + 1) (w.alloc (.cells #[.int .i64 r.kind, .int .i64 r.tok, .int .i64 r.tier, .int .i64 r.beg, .int .i64 r.fin] 3))).drew).cell (by simp)).trans (nums5_at w r _ j h)) (by simp) (by simp [GRec.nums]) hf).mono fun e w' ⟨he, hb⟩ => ⟨he, (bal (Below.refl _ _) _).drew.trans (hb.mono (by simp))⟩

theorem nums5_size {r : GRec} (hf : ∀ n ∈ r.nums, I64 n) : (joinT (r.nums.map numT) comma).size ≤ 110 := by
  have := joinT_size comma 21 (r.nums.map numT) (fun x hx => by
    obtain ⟨n, hn, rfl⟩ := List.mem_map.1 hx
    exact numT_le (hf n hn).1 (hf n hn).2)
  rw [List.length_map, comma_size] at this
  simpa [GRec.nums] using this

theorem recordOK_b (r : GRec) (b : Bool) (h : b = true ↔ RecP r) (w : World) (hk : r.key.size ≤ 2 ^ 63 - 1) (hp : Paths w) (hz : 1 < w.heap.size) : Calls Tryz.prog 34 #[.agg #[.int .i64 r.kind, .int .i64 r.tok, .int .i64 r.tier, .int .i64 r.beg, .int .i64 r.fin, .string r.key]] w fun e w' => e = .returned (.bool b) ∧ Below w.heap.size w w' :=
  (recordOK_any r w hk hp hz).mono fun e w' ⟨b', hb', he, hB⟩ => ⟨by rw [he, Bool.eq_iff_iff.2 (hb'.trans h.symm)], hB⟩

theorem specRecordOK_b (r : GRec) (b : Bool) (h : b = true ↔ RecP r) (w : World) (hk : r.key.size ≤ 1048576) : Calls Tryz.prog 27 #[.agg #[.int .i64 r.kind, .int .i64 r.tok, .int .i64 r.tier, .int .i64 r.beg, .int .i64 r.fin, .string r.key]] w fun e w' => e = .returned (.bool b) ∧ Below w.heap.size w w' :=
  (specRecordOK_any r w hk).mono fun e w' ⟨b', hb', he, hB⟩ => ⟨by rw [he, Bool.eq_iff_iff.2 (hb'.trans h.symm)], hB⟩

theorem RecP.keyLe {r : GRec} (h : RecP r) : r.key.size ≤ 17 := by
  rcases h with ⟨_, _, _, h⟩ | ⟨_, _, _, _, _, h⟩ | ⟨_, _, _, h⟩ | ⟨_, _, h⟩ | ⟨_, _, _, _, _, h⟩
  · obtain ⟨t, n, m, h⟩ := h.key; exact isKey_size h
  · rw [h]; decide
  · obtain ⟨t, n, m, h⟩ := h.key; exact isKey_size h
  · obtain ⟨t, n, m, h⟩ := h.key; exact isKey_size h
  · obtain ⟨t, n, m, h⟩ := h; exact isKey_size h

set_option maxRecDepth 100000 in
theorem l06Text_any (r : GRec) (hf : ∀ n ∈ r.nums, I64 n) (hk : r.key.size ≤ 1048576) (w : World) : Calls Tryz.prog 93 #[.agg #[.int .i64 r.kind, .int .i64 r.tok, .int .i64 r.tier, .int .i64 r.beg, .int .i64 r.fin, .string r.key]] w fun e w' => e = .returned (.string (recT r)) ∧ Below w.heap.size w w' := by
  obtain ⟨J, hJ⟩ : ∃ J, J = joinT (r.nums.map numT) comma := ⟨_, rfl⟩
  have hz := nums5_size hf
  have key := fun (W : World) => join5_any r hf W
  have hT : recT r = J ++ ⟨#[32]⟩ ++ r.key := by rw [hJ]; rfl
  rw [← hJ] at hz
  simp only [← hJ] at key
  have z3 : ¬ 9223372036854775807 < J.size + 1 := by omega
  have z4 : ¬ 9223372036854775807 < J.size + 1 + r.key.size := by omega
  have HT := Lib.hid hT
  have Hk := Lib.hid key
  clear key hT hf hJ hz
  go_enter Tryz.func93, Tryz.ntmps93
  go_wp2_with fail
  have c0 := (RecAt.new w r 38).cells
  have b0 : Below w.heap.size w (w.alloc (.cells #[.int .i64 r.kind, .int .i64 r.tok, .int .i64 r.tier, .int .i64 r.beg, .int .i64 r.fin, .string r.key] 38)) := bal (Below.refl _ _) _
  have s0 : w.heap.size < (w.alloc (.cells #[.int .i64 r.kind, .int .i64 r.tok, .int .i64 r.tier, .int .i64 r.beg, .int .i64 r.fin, .string r.key] 38)).heap.size := by simp
  have RA := Lib.hid (RecAt.new w r 38)
  generalize w.alloc (.cells #[.int .i64 r.kind, .int .i64 r.tok, .int .i64 r.tier, .int .i64 r.beg, .int .i64 r.fin, .string r.key] 38) = W at *
  go_region_held3 (fun w' => w'.cell? ⟨w.heap.size, 0, none⟩ = some (.int .i64 r.kind) ∧ w'.cell? ⟨w.heap.size, 1, none⟩ = some (.int .i64 r.tok) ∧ w'.cell? ⟨w.heap.size, 2, none⟩ = some (.int .i64 r.tier) ∧ w'.cell? ⟨w.heap.size, 3, none⟩ = some (.int .i64 r.beg) ∧ w'.cell? ⟨w.heap.size, 4, none⟩ = some (.int .i64 r.fin) ∧ w'.cell? ⟨w.heap.size, 5, none⟩ = some (.string r.key)) (first | exact c0 | exact (RA.out.below hb1 s0).cells | (go_keep; done))
    (first | (go_at_call 133; refine (Hk.out W).mono ?_; rintro e w1 ⟨rfl, hb1⟩))
  have b2 := bnext b0 hb1
  clear hb1 c0 RA
  go_wp2
  go_ret
  exact ⟨by rw [HT.out]; rfl, b2⟩

set_option maxRecDepth 100000 in
theorem recordText_any (r : GRec) (hf : r.fit) (w : World) (hk : r.key.size ≤ 2 ^ 63 - 1) (hp : Paths w) (hz : 1 < w.heap.size) (ht : Pow w) : Calls Tryz.prog 59 #[.agg #[.int .i64 r.kind, .int .i64 r.tok, .int .i64 r.tier, .int .i64 r.beg, .int .i64 r.fin, .string r.key]] w fun e w' => ∃ s cd, e = .returned (.tuple #[.string s, .int .i64 cd]) ∧ RecTextOf r s cd ∧ Below w.heap.size w w' := by
  have hn := fit_nums5 ⟨hf.1, hf.2.1, hf.2.2.1, hf.2.2.2.1, hf.2.2.2.2.1⟩
  have HP : Hid (∀ w', Below w.heap.size w w' → Paths w' ∧ 1 < w'.heap.size ∧ Pow w') := Lib.hid (fun w' h => ⟨hp.below h hz, Nat.lt_of_lt_of_le hz h.size, ht.below h (Nat.le_refl _)⟩)
  clear hp ht
  by_cases hp : RecP r
  · have h17 := hp.keyLe
    have hT : recT r = joinT (r.nums.map numT) comma ++ ⟨#[32]⟩ ++ r.key := rfl
    have hz := nums5_size hn
    have key := fun (W : World) (h : Below w.heap.size w W) => numsText5_any r hn W (HP.out W h).2.2
    obtain ⟨J, hJ⟩ : ∃ J, J = joinT (r.nums.map numT) comma := ⟨_, rfl⟩
    rw [← hJ] at hz hT
    simp only [← hJ] at key
    have z3 : ¬ 9223372036854775807 < J.size + 1 := by omega
    have z4 : ¬ 9223372036854775807 < J.size + 1 + r.key.size := by omega
    have HT := Lib.hid hT
    have Hk := Lib.hid key
    have Hp := Lib.hid hp
    clear key hT hn hJ hz hp h17
    go_enter Tryz.func59, Tryz.ntmps59
    go_wp2_with fail
    have b00 : Below w.heap.size w (w.alloc (.cells #[.int .i64 r.kind, .int .i64 r.tok, .int .i64 r.tier, .int .i64 r.beg, .int .i64 r.fin, .string r.key] 38)) := bal (Below.refl _ _) _
    refine (recordOK_b r true (by simp [Hp.out]) _ hk (HP.out _ b00).1 (HP.out _ b00).2.1).mono ?_
    rintro e w1 ⟨rfl, hb1⟩
    have b0 : Below w.heap.size w w1 := (bal (Below.refl _ _) _).trans (hb1.mono (by simp))
    have RA := Lib.hid ((RecAt.new w r 38).below hb1 (by simp))
    have s0 : w.heap.size < w1.heap.size := by have := hb1.size; simp at this; omega
    have c0 := RA.out.cells
    clear hb1 b00
    go_wp2_with fail
    go_region_held3 (fun w' => w'.cell? ⟨w.heap.size, 0, none⟩ = some (.int .i64 r.kind) ∧ w'.cell? ⟨w.heap.size, 1, none⟩ = some (.int .i64 r.tok) ∧ w'.cell? ⟨w.heap.size, 2, none⟩ = some (.int .i64 r.tier) ∧ w'.cell? ⟨w.heap.size, 3, none⟩ = some (.int .i64 r.beg) ∧ w'.cell? ⟨w.heap.size, 4, none⟩ = some (.int .i64 r.fin) ∧ w'.cell? ⟨w.heap.size, 5, none⟩ = some (.string r.key)) (first | exact c0 | exact (RA.out.below hb2 s0).cells | (go_keep; done))
      (first | (go_at_call 94; refine (Hk.out w1 b0).mono ?_; rintro e w2 ⟨rfl, hb2⟩))
    have b2 := bnext b0 hb2
    clear hb2 c0 RA
    go_wp2
    refine bodyPost_ret (v := .tuple #[.string (recT r), .int .i64 0]) (by rw [HT.out]; simp [results, Tryz.results59, go_sem]) rfl ⟨recT r, 0, rfl, Or.inl ⟨Hp.out, rfl, rfl⟩, b2⟩
  · have Hp := Lib.hid hp; clear hp
    go_enter Tryz.func59, Tryz.ntmps59
    go_wp2_with fail
    have b00 : Below w.heap.size w (w.alloc (.cells #[.int .i64 r.kind, .int .i64 r.tok, .int .i64 r.tier, .int .i64 r.beg, .int .i64 r.fin, .string r.key] 38)) := bal (Below.refl _ _) _
    refine (recordOK_b r false (by simp [Hp.out]) _ hk (HP.out _ b00).1 (HP.out _ b00).2.1).mono ?_
    rintro e w1 ⟨rfl, hb1⟩
    have b1 : Below w.heap.size w w1 := (bal (Below.refl _ _) _).trans (hb1.mono (by simp))
    clear hb1
    go_wp2
    refine bodyPost_ret (v := .tuple #[.string ⟨#[]⟩, .int .i64 1]) (by simp [results, Tryz.results59, go_sem]) rfl ⟨⟨#[]⟩, 1, rfl, Or.inr ⟨Hp.out, rfl, rfl⟩, b1⟩

end Go.Proofs.YthmpmagajbmpaaaGreatDoor

/- Contracts of the laws' copying helpers: to (a copy of a store in new memory). -/
namespace Go.Proofs.YthmpmagajbmpaaaGreatDoor
open Go.ChangeShapes Go.WideShapes Go.ChangeAt Go.RowKit
set_option linter.unusedVariables false

theorem info40 : (Tryz.prog.info? 92).map (fun i => (i.zero, i.size, i.bytes)) = some (some (.agg #[.string ⟨#[]⟩, .int .i64 0, .string ⟨#[]⟩]), 3, 40) := by kernel_rfl

theorem toObject_any (o : GObj) (w : World) : Calls Tryz.prog 87 #[.agg #[.string o.key, .int .i64 o.ver, .string o.data]] w fun e w' => e = .returned (.agg #[.string o.key, .int .i64 o.ver, .string o.data]) ∧ Below w.heap.size w w' := by
  go_enter Tryz.func87, Tryz.ntmps87
  go_wp2
  refine bodyPost_ret (v := .agg #[.string o.key, .int .i64 o.ver, .string o.data]) (by simp [results, Tryz.results87, go_sem]) rfl ⟨rfl, ?_⟩
  exact bal (bal (bal (Below.refl _ _) _) _) _

/-- an object of zeros -/
def zObj : GObj := ⟨⟨#[]⟩, 0, ⟨#[]⟩⟩

/-- a new block of so many of them -/
def zeroObjs (n : Nat) : Obj := .cells (madeCells #[.string ⟨#[]⟩, .int .i64 0, .string ⟨#[]⟩] (n * 3)) 92

theorem make_objs (n : Nat) (hn : n ≤ 1048576) (W : World) : (Instr.makeSlice 49 (.int .i64 (n : Int)) (.int .i64 (n : Int))).run Tryz.prog W = .ok (.slice (some ⟨W.heap.size, 0, none⟩) n n) (W.alloc (zeroObjs n)) :=
  run_make_n (P := Tryz.prog) 49 92 _ 3 40 info40 Tryz.underlying49 n n (Nat.le_refl _) (by omega) (by omega) W

theorem zeroObjs_sl (n : Nat) (w : World) : ObjsAt (w.alloc (zeroObjs n)) (w.heap.size + 1) (some ⟨w.heap.size, 0, none⟩) (List.replicate n zObj) :=
  made_sl GObj.vals zObj 3 n 92 w _ rfl rfl

theorem zeroObjs_free (n : Nat) (w : World) : Free (w.alloc (zeroObjs n)) (some ⟨w.heap.size, 0, none⟩) := free_alloc _ _ _ _

/-- a slice of objects is answered, in new memory of its own -/
def NewObjs (xs : List GObj) (w : World) (e : Ending) (w' : World) : Prop :=
  ∃ (A : Option Addr) (c : Nat), e = .returned (.slice A xs.length c) ∧ ObjsAt w' w'.heap.size A xs ∧ Free w' A ∧ (∀ b, blk A = some b → w.heap.size ≤ b ∧ b < w'.heap.size) ∧ xs.length ≤ c ∧ Below w.heap.size w w'

theorem ObjsAt.store {w w1 : World} {B g k : Nat} {ys : List GObj} (h : ObjsAt w B (some ⟨g, 0, none⟩) ys) (hk : k < ys.length) (ho : ∀ i, w1.cell? ⟨g, i, none⟩ = w.cell? ⟨g, i, none⟩) (o : GObj) :
    ObjsAt (((w1.setCell ⟨g, k * 3, none⟩ (.string o.key)).setCell ⟨g, k * 3 + 1, none⟩ (.int .i64 o.ver)).setCell ⟨g, k * 3 + 2, none⟩ (.string o.data)) B (some ⟨g, 0, none⟩) (ys.set k o) := by
  obtain ⟨b, off, e, hgB, q0, q1, q2⟩ := ObjsAt.obj h hk
  injection e with e
  injection e with e1 e2
  subst e1 e2
  rw [← ho] at q0 q1 q2
  rw [Nat.zero_add] at q0 q1 q2
  refine Sl.set h vals_length hk o ?_ ?_
  · intro i v hv
    rw [Nat.zero_add]
    match i, hv with
    | 0, hv =>
      simp [GObj.vals] at hv; subst hv
      rw [cset_ne _ _ _ _ _ (by omega), cset_ne _ _ _ _ _ (by omega)]; exact cset_eq _ _ _ _ q0
    | 1, hv =>
      simp [GObj.vals] at hv; subst hv
      rw [cset_ne _ _ _ _ _ (by omega)]; exact cset_eq _ _ _ _ ((cset_ne _ _ _ _ _ (by omega)).trans q1)
    | 2, hv =>
      simp [GObj.vals] at hv; subst hv
      exact cset_eq _ _ _ _ ((cset_ne _ _ _ _ _ (by omega)).trans ((cset_ne _ _ _ _ _ (by omega)).trans q2))
    | i + 3, hv => simp [GObj.vals] at hv
  · intro i hi
    rw [cset_ne _ _ _ _ _ (by omega), cset_ne _ _ _ _ _ (by omega), cset_ne _ _ _ _ _ (by omega)]
    exact ho i

set_option maxRecDepth 100000 in
theorem toObjectS_any (A : Option Addr) (c : Nat) (xs : List GObj) (B : Nat) (w : World) (h : ObjsAt w B A xs) (hB : B ≤ w.heap.size) (hl : xs.length ≤ 1048576) :
    Calls Tryz.prog 49 #[.slice A xs.length c] w (NewObjs xs w) := by
  have H := Lib.hid h; clear h
  have hmk := make_objs xs.length hl
  go_enter Tryz.func49, Tryz.ntmps49
  go_wp2_with fail
  have hsl := zeroObjs_sl xs.length w
  have hfr := zeroObjs_free xs.length w
  have hbw : Below w.heap.size w (w.alloc (zeroObjs xs.length)) := bal (Below.refl _ _) _
  have hsz : w.heap.size < (w.alloc (zeroObjs xs.length)).heap.size := by simp
  generalize w.alloc (zeroObjs xs.length) = w0 at hsl hfr hbw hsz ⊢
  clear hmk
  have Hsl := Lib.hid hsl; clear hsl
  have Hfr := Lib.hid hfr; clear hfr
  go_loopw [4] (fun i wr => ∃ j : Nat, j ≤ xs.length ∧ i = .int .i64 j ∧ Hid (ObjsAt wr (w.heap.size + 1) (some ⟨w.heap.size, 0, none⟩) (xs.take j ++ (List.replicate xs.length zObj).drop j)) ∧ Hid (Free wr (some ⟨w.heap.size, 0, none⟩)) ∧ w.heap.size < wr.heap.size ∧ Below w.heap.size w wr) (fun i _ => xs.length - (intOf i).toNat)
  case atStart => exact ⟨0, by omega, rfl, Lib.hid (by simpa using Hsl.out), Hfr, hsz, hbw⟩
  case round =>
    clear Hsl Hfr hbw hsz
    obtain ⟨j, hj, rfl, Hr, Hf, hs, hb⟩ := hrel
    by_cases hlt : j < xs.length
    · obtain ⟨b, off, rfl, hbB, p0, p1, p2⟩ := ObjsAt.obj (Sl.below H.out hb hB) hlt
      have hjl : j < (xs.take j ++ (List.replicate xs.length zObj).drop j).length := by simp; omega
      obtain ⟨g, o, e, hgB, q0, q1, q2⟩ := ObjsAt.obj Hr.out hjl
      injection e with e
      injection e with e1 e2
      subst e1 e2
      obtain ⟨v0, q0⟩ : ∃ v, wr.cell? ⟨w.heap.size, 0 + j * 3, none⟩ = some v := ⟨_, q0⟩
      obtain ⟨v1, q1⟩ : ∃ v, wr.cell? ⟨w.heap.size, 0 + j * 3 + 1, none⟩ = some v := ⟨_, q1⟩
      obtain ⟨v2, q2⟩ : ∃ v, wr.cell? ⟨w.heap.size, 0 + j * 3 + 2, none⟩ = some v := ⟨_, q2⟩
      have fz : ∀ i, wr.frozen? ⟨w.heap.size, i, none⟩ = false := Hf.out _ rfl
      rw [Nat.zero_add] at q0 q1 q2
      have Q0 := Lib.hid q0; clear q0
      have Q1 := Lib.hid q1; clear q1
      have Q2 := Lib.hid q2; clear q2
      have Fz := Lib.hid fz; clear fz
      go_wp2_with fail
      refine (toObject_any xs[j] wr).mono ?_
      rintro e w1 ⟨rfl, hb1⟩
      have c0 : w1.cell? ⟨w.heap.size, j * 3, none⟩ = some v0 := (hb1.cell hs).trans Q0.out
      have c1 : w1.cell? ⟨w.heap.size, j * 3 + 1, none⟩ = some v1 := (hb1.cell hs).trans Q1.out
      have c2 : w1.cell? ⟨w.heap.size, j * 3 + 2, none⟩ = some v2 := (hb1.cell hs).trans Q2.out
      have f0 : w1.frozen? ⟨w.heap.size, j * 3, none⟩ = false := (hb1.frozen hs).trans (Fz.out _)
      have f1 : w1.frozen? ⟨w.heap.size, j * 3 + 1, none⟩ = false := (hb1.frozen hs).trans (Fz.out _)
      have f2 : w1.frozen? ⟨w.heap.size, j * 3 + 2, none⟩ = false := (hb1.frozen hs).trans (Fz.out _)
      have hn := ObjsAt.store (w1 := w1) Hr.out hjl (fun i => hb1.cell hs) xs[j]
      rw [take_set xs _ j hlt (by simpa using hlt)] at hn
      have Hn := Lib.hid hn; clear hn
      have hfn : Free (((w1.setCell ⟨w.heap.size, j * 3, none⟩ (.string xs[j].key)).setCell ⟨w.heap.size, j * 3 + 1, none⟩ (.int .i64 xs[j].ver)).setCell ⟨w.heap.size, j * 3 + 2, none⟩ (.string xs[j].data)) (some ⟨w.heap.size, 0, none⟩) := fun b e i => by
        simp [blk] at e; subst e
        rw [frozen_setCell, frozen_setCell, frozen_setCell]; exact (hb1.frozen hs).trans (Fz.out i)
      have Hfn := Lib.hid hfn; clear hfn
      have hsn : w.heap.size < w1.heap.size := by have := hb1.size; omega
      have hbn : Below w.heap.size w (((w1.setCell ⟨w.heap.size, j * 3, none⟩ (.string xs[j].key)).setCell ⟨w.heap.size, j * 3 + 1, none⟩ (.int .i64 xs[j].ver)).setCell ⟨w.heap.size, j * 3 + 2, none⟩ (.string xs[j].data)) :=
        bset (bset (bset (bnext hb hb1) (Nat.le_refl _) _) (Nat.le_refl _) _) (Nat.le_refl _) _
      have Hbn := Lib.hid hbn; clear hbn
      go_wp2
      go_roundw
      case rel => exact ⟨j + 1, by omega, by go_num, Hn, Hfn, by simpa [World.setCell] using hsn, Hbn.out⟩
      case measure => simp [intOf]; omega
    · obtain rfl : j = xs.length := by omega
      have hn : ObjsAt wr (w.heap.size + 1) (some ⟨w.heap.size, 0, none⟩) xs := by simpa using Hr.out
      have Hn := Lib.hid hn; clear hn
      go_wp2
      go_ret
      exact ⟨_, _, rfl, Sl.more Hn.out hs, Hf.out, fun b e => by simp [blk] at e; subst e; exact ⟨Nat.le_refl _, hs⟩, Nat.le_refl _, hb⟩

/-- a store is answered, in new memory of its own -/
def NewStoreV (xs : List GObj) (next : Int) (w : World) (e : Ending) (w' : World) : Prop :=
  ∃ (A : Option Addr) (c : Nat), e = .returned (.agg #[.slice A xs.length c, .int .i64 next]) ∧ ObjsAt w' w'.heap.size A xs ∧ Free w' A ∧ (∀ b, blk A = some b → w.heap.size ≤ b ∧ b < w'.heap.size) ∧ xs.length ≤ c ∧ Below w.heap.size w w'

theorem toStore_any (A : Option Addr) (c : Nat) (next : Int) (xs : List GObj) (B : Nat) (w : World) (h : ObjsAt w B A xs) (hB : B ≤ w.heap.size) (hl : xs.length ≤ 1048576) :
    Calls Tryz.prog 17 #[.agg #[.slice A xs.length c, .int .i64 next]] w (NewStoreV xs next w) := by
  have H := Lib.hid h; clear h
  go_enter Tryz.func17, Tryz.ntmps17
  go_wp2_with fail
  refine (toObjectS_any A c xs B _ (Sl.below H.out (bal (bal (bal (Below.refl _ _) _) _) _) hB) (by simp; omega) hl).mono ?_
  rintro e w1 ⟨A1, c1, rfl, ho, hf, hbl, hc, hb1⟩
  have hsz : w.heap.size + 3 ≤ w1.heap.size := by have := hb1.size; simp at this; omega
  have b0 : w1.cell? ⟨w.heap.size, 1, none⟩ = some (.int .i64 next) := by rw [hb1.cell (by simp <;> omega)]; simp [go_sem]
  have b1 : w1.cell? ⟨w.heap.size + 1, 0, none⟩ = some (.slice none 0 0) := by rw [hb1.cell (by simp <;> omega)]; simp [go_sem]
  have b2 : w1.cell? ⟨w.heap.size + 1, 1, none⟩ = some (.int .i64 0) := by rw [hb1.cell (by simp <;> omega)]; simp [go_sem]
  have b3 : w1.cell? ⟨w.heap.size + 1 + 1, 0, none⟩ = some (.slice none 0 0) := by rw [hb1.cell (by simp)]; simp [go_sem]
  have b4 : w1.cell? ⟨w.heap.size + 1 + 1, 1, none⟩ = some (.int .i64 0) := by rw [hb1.cell (by simp)]; simp [go_sem]
  have f1 : w1.frozen? ⟨w.heap.size + 1, 0, none⟩ = false := by rw [hb1.frozen (by simp <;> omega)]; simp [go_sem]
  have f2 : w1.frozen? ⟨w.heap.size + 1, 1, none⟩ = false := by rw [hb1.frozen (by simp <;> omega)]; simp [go_sem]
  have f3 : w1.frozen? ⟨w.heap.size + 1 + 1, 0, none⟩ = false := by rw [hb1.frozen (by simp)]; simp [go_sem]
  have f4 : w1.frozen? ⟨w.heap.size + 1 + 1, 1, none⟩ = false := by rw [hb1.frozen (by simp)]; simp [go_sem]
  have hb2 : Below w.heap.size w w1 := bnext (bal (bal (bal (Below.refl _ _) _) _) _) hb1
  have hbl2 : ∀ b, blk A1 = some b → w.heap.size + 3 ≤ b ∧ b < w1.heap.size := fun b e => ⟨by have := (hbl b e).1; simp at this; omega, (hbl b e).2⟩
  have Hbl := Lib.hid hbl2
  have Ho := Lib.hid ho
  have Hf := Lib.hid hf
  clear hbl hbl2 ho hf hb1
  go_wp2
  refine bodyPost_ret (v := .agg #[.slice A1 xs.length c1, .int .i64 next]) (by simp [results, Tryz.results17, go_sem, *]) rfl ⟨A1, c1, rfl, ?_, ?_, ?_, hc, ?_⟩
  · rw [size_setCell, size_setCell, size_setCell, size_setCell]
    refine Sl.far (Sl.far (Sl.far (Sl.far Ho.out ?_ _) ?_ _) ?_ _) ?_ _
    all_goals (intro b e; have := (Hbl.out b e).1; dsimp only; omega)
  · exact (((Hf.out.setCell _ _).setCell _ _).setCell _ _).setCell _ _
  · intro b e
    rw [size_setCell, size_setCell, size_setCell, size_setCell]
    exact ⟨by have := (Hbl.out b e).1; omega, (Hbl.out b e).2⟩
  · exact bset (bset (bset (bset hb2 (by show _ ≤ w.heap.size + 1 + 1; omega) _) (by show _ ≤ w.heap.size + 1 + 1; omega) _) (by show _ ≤ w.heap.size + 1; omega) _) (by show _ ≤ w.heap.size + 1; omega) _

end Go.Proofs.YthmpmagajbmpaaaGreatDoor

/- A set of numbers kept as a Go map from int to bool that the call made: what it holds, looked up, written; and what a store is (the predicate), with the object's own check. -/
namespace Go.Proofs.YthmpmagajbmpaaaGreatDoor
open Go.ChangeShapes Go.WideShapes Go.ChangeAt Go.RowKit Go.Maps
set_option linter.unusedVariables false

theorem intKeyed : Keyed Tryz.prog 3 := int_keyed Tryz.underlying3

theorem zeroBool (w : World) : (zeroValue 4).run Tryz.prog w = .ok (.bool false) w := by kernel_rfl

/-- block b is a map from int to bool that says true just of the numbers vs -/
def IntSet (w : World) (b : Nat) (vs : List Int) : Prop :=
  ∃ D : DataW Unit, w.ownsMap Tryz.prog 3 (plainElem Tryz.prog 4) b vs.length D ∧ ∀ v, D.atKey (.int .i64 v) (.lit (.bool false)) = .lit (.bool (vs.contains v))

theorem run_makeMap_some (t k e : TypeId) (n : Int) (ht : Tryz.prog.underlying t = some (.map k e)) (w : World) :
    (Instr.makeMap t (some (.int .i64 n))).run Tryz.prog w = .ok (.map (some w.heap.size)) (w.alloc (.map #[] 0)) := by
  simp [Instr.makeMap, run_underlying ht]; rfl

theorem IntSet.made (w : World) : IntSet (w.alloc (.map #[] 0)) w.heap.size [] := ⟨_, World.ownsMap_made _ _ _ _, fun v => rfl⟩

theorem plainElem_bool_inv {P : Program} {e : TypeId} (he : P.underlying e = some .bool) {v : Value} {z : DataW Unit × List MemPlace} (h : plainElem P e v = some z) : ∃ x, v = .bool x ∧ z = (.lit (.bool x), []) := by
  unfold plainElem at h
  rw [he] at h
  cases v <;> simp at h
  exact ⟨_, rfl, h.symm⟩

theorem IntSet.look {w : World} {b : Nat} {vs : List Int} (h : IntSet w b vs) {v : Int} (hv : (Lit.int .i64 v).wf = true) :
    (Instr.lookup 138 (.map (some b)) (.int .i64 v) false).run Tryz.prog w = .ok (.bool (vs.contains v)) w := by
  obtain ⟨D, hown, hat⟩ := h
  obtain ⟨u, ps, hrun, hu⟩ := hown.lookup intKeyed Tryz.underlying138 (zeroBool w) (plainElem_bool Tryz.underlying4 false) (keyOf_int_mk Tryz.underlying3 hv)
  obtain ⟨x, rfl, hx⟩ := plainElem_bool_inv Tryz.underlying4 hu
  rw [hat v] at hx
  simp only [Prod.mk.injEq, DataW.lit.injEq, Lit.bool.injEq] at hx
  rw [hrun, hx.1]

theorem IntSet.lt {w : World} {b : Nat} {vs : List Int} (h : IntSet w b vs) : b < w.heap.size := by obtain ⟨D, hown, _⟩ := h; exact hown.lt

theorem IntSet.grown {w w' : World} {b : Nat} {vs : List Int} (h : IntSet w b vs) {row : Option Nat} (hg : w.grownBy w' row) (hr : some b ≠ row) : IntSet w' b vs := by
  obtain ⟨D, hown, hat⟩ := h
  exact ⟨D, hown.kept hg hr, hat⟩

theorem IntSet.below {w w' : World} {b : Nat} {vs : List Int} (h : IntSet w b vs) (hb : Below w.heap.size w w') : IntSet w' b vs := h.grown (grown_of_below hb none) (by simp)

theorem IntSet.after {w w' : World} {b : Nat} {vs : List Int} {v : Int} {D : DataW Unit} {n : Nat} (hn : n = vs.length + 1) (hat : ∀ u, D.atKey (.int .i64 u) (.lit (.bool false)) = .lit (.bool (vs.contains u))) (hm : IsMap D)
    (h : w'.ownsMap Tryz.prog 3 (plainElem Tryz.prog 4) b n (D.put (.int .i64 v) (.lit (.bool true)))) : IntSet w' b (v :: vs) := by
  refine ⟨_, by subst hn; exact h, fun u => ?_⟩
  by_cases e : u = v
  · subst e
    rw [atKey_put_same hm (by trivial)]
    simp
  · rw [atKey_put_other (by intro h; injection h with _ h; exact e h), hat u]
    simp [e]

/-- the order of texts -/
def bl (a b : ByteArray) : Bool := Op.bytesLess a.toList b.toList

/-- an object of a store whose Next is next -/
def ObjOK (next : Int) (o : GObj) : Prop := KeyP o.key ∧ 1 ≤ o.ver ∧ o.ver < next ∧ o.data.size ≤ 600

/-- the first k objects are right -/
def PreOK (xs : List GObj) (next : Int) (k : Nat) : Prop :=
  (∀ i (h : i < xs.length), i < k → ObjOK next xs[i]) ∧ (∀ i (h : i + 1 < xs.length), i + 1 < k → bl xs[i].key xs[i + 1].key = true) ∧ (∀ i j (h : j < xs.length) (hij : i < j), j < k → xs[i].ver ≠ xs[j].ver)

/-- a store -/
def StoreP (xs : List GObj) (next : Int) : Prop := 1 ≤ next ∧ next ≤ 1000000000 ∧ xs.length ≤ 300 ∧ PreOK xs next xs.length

/-- objects as they can lie in memory: texts and numbers fit -/
def GObj.fit (o : GObj) : Prop := o.fits ∧ (Lit.int .i64 o.ver).wf = true

theorem objRight_any (o : GObj) (next : Int) (w : World) (ho : o.fits) :
    Calls Tryz.prog 88 #[.agg #[.string o.key, .int .i64 o.ver, .string o.data], .int .i64 next] w (IsBB (ObjOK next o) w) := by
  obtain ⟨ok, od⟩ := ho
  unfold maxLen at od
  go_enter Tryz.func88, Tryz.ntmps88
  go_wp2_with fail
  refine (key_any o.key _ ok).mono ?_
  rintro e w1 ⟨b, hb, rfl, rfl⟩
  have Hb := Lib.hid hb; clear hb
  cases b
  · have hn : ¬ ObjOK next o := fun h => by have := Hb.out.2 h.1; cases this
    have Hn := Lib.hid hn; clear hn Hb
    go_wp2
    go_ret
    exact ⟨false, by simp [Hn.out], rfl, bal (Below.refl _ _) _⟩
  · have hk : KeyP o.key := Hb.out.1 rfl
    have Hk := Lib.hid hk; clear hk Hb
    by_cases c1 : 1 ≤ o.ver
    · by_cases c2 : o.ver < next
      · by_cases c3 : o.data.size ≤ 600
        · have hn : ObjOK next o := ⟨Hk.out, c1, c2, c3⟩
          have Hn := Lib.hid hn; clear hn
          go_wp2
          go_ret
          exact ⟨true, by simp [Hn.out], by simp; omega, bal (Below.refl _ _) _⟩
        · have hn : ¬ ObjOK next o := fun h => c3 h.2.2.2
          have Hn := Lib.hid hn; clear hn
          have d3 : decide ((o.data.size : Int) ≤ 600) = false := by simp; omega
          go_wp2
          go_ret
          exact ⟨false, by simp [Hn.out], rfl, bal (Below.refl _ _) _⟩
      · have hn : ¬ ObjOK next o := fun h => c2 h.2.2.1
        have Hn := Lib.hid hn; clear hn
        have d2 : decide (o.ver < next) = false := by simpa using c2
        go_wp2
        go_ret
        exact ⟨false, by simp [Hn.out], rfl, bal (Below.refl _ _) _⟩
    · have hn : ¬ ObjOK next o := fun h => c1 h.2.1
      have Hn := Lib.hid hn; clear hn
      have d1 : decide (1 ≤ o.ver) = false := by simpa using c1
      go_wp2
      go_ret
      exact ⟨false, by simp [Hn.out], rfl, bal (Below.refl _ _) _⟩

end Go.Proofs.YthmpmagajbmpaaaGreatDoor

/- Contract of (Store).right, and of StoreOK: true just of a store. -/
namespace Go.Proofs.YthmpmagajbmpaaaGreatDoor
open Go.ChangeShapes Go.WideShapes Go.ChangeAt Go.RowKit Go.Maps
set_option linter.unusedVariables false

theorem wf_ver {o : GObj} (h : o.fit) : (Lit.int .i64 o.ver).wf = true := h.2

def vers (xs : List GObj) (k : Nat) : List Int := ((xs.take k).map (·.ver)).reverse

theorem vers_has (xs : List GObj) (k : Nat) (v : Int) (hk : k ≤ xs.length) : (vers xs k).contains v = true ↔ ∃ i, ∃ h : i < xs.length, i < k ∧ xs[i].ver = v := by
  simp only [vers, List.contains_iff_mem, List.mem_reverse, List.mem_map]
  constructor
  · rintro ⟨o, ho, rfl⟩
    obtain ⟨i, hi, rfl⟩ := List.mem_iff_getElem.1 ho
    simp at hi
    exact ⟨i, by omega, by omega, by simp⟩
  · rintro ⟨i, h, hik, rfl⟩
    exact ⟨xs[i], List.mem_iff_getElem.2 ⟨i, by simp; omega, by simp⟩, rfl⟩

theorem vers_succ (xs : List GObj) (k : Nat) (hk : k < xs.length) : vers xs (k + 1) = xs[k].ver :: vers xs k := by
  unfold vers
  rw [List.take_succ_eq_append_getElem hk, List.map_append, List.reverse_append]
  rfl

theorem PreOK.succ {xs : List GObj} {next : Int} {k : Nat} (h : PreOK xs next k) (hk : k < xs.length) (ho : ObjOK next xs[k]) (hv : (vers xs k).contains xs[k].ver = false) (hb : ∀ h0 : 0 < k, bl xs[k - 1].key xs[k].key = true) : PreOK xs next (k + 1) := by
  refine ⟨fun i hi hik => ?_, fun i hi hik => ?_, fun i j hj hij hjk => ?_⟩
  · by_cases e : i = k
    · subst e; exact ho
    · exact h.1 i hi (by omega)
  · by_cases e : i + 1 = k
    · subst e; exact hb (by omega)
    · exact h.2.1 i hi (by omega)
  · by_cases e : j = k
    · subst e
      intro he
      have := (vers_has xs j xs[j].ver (by omega)).2 ⟨i, by omega, hij, he⟩
      rw [hv] at this
      cases this
    · exact h.2.2 i j hj hij (by omega)

theorem not_store_obj {xs : List GObj} {next : Int} {k : Nat} (hk : k < xs.length) (h : ¬ ObjOK next xs[k]) : ¬ StoreP xs next := fun hs => h (hs.2.2.2.1 k hk hk)

theorem not_store_ver {xs : List GObj} {next : Int} {k : Nat} (hk : k < xs.length) (h : (vers xs k).contains xs[k].ver = true) : ¬ StoreP xs next := fun hs => by
  obtain ⟨i, hi, hik, he⟩ := (vers_has xs k _ (by omega)).1 h
  exact hs.2.2.2.2.2 i k hk hik hk he

theorem not_store_key {xs : List GObj} {next : Int} {k : Nat} (hk : k < xs.length) (h0 : 0 < k) (h : bl xs[k - 1].key xs[k].key = false) : ¬ StoreP xs next := fun hs => by
  have := hs.2.2.2.2.1 (k - 1) (by omega) (by omega)
  have e : k - 1 + 1 = k := by omega
  simp only [e] at this
  rw [h] at this
  cases this

set_option maxRecDepth 100000 in
theorem right_in (A : Option Addr) (c : Nat) (next : Int) (xs : List GObj) (B : Nat) (w : World) (h : ObjsAt w B A xs) (hB : B ≤ w.heap.size) (hf : ∀ o ∈ xs, o.fit) (n1 : 1 ≤ next) (n2 : next ≤ 1000000000) (hl : xs.length ≤ 300) :
    Calls Tryz.prog 50 #[.agg #[.slice A xs.length c, .int .i64 next]] w (IsBB (StoreP xs next) w) := by
  have H := Lib.hid h; clear h
  have Hf := Lib.hid hf; clear hf
  have d1 : decide (next < 1) = false := by simp; omega
  have d2 : decide (1000000000 < next) = false := by simp; omega
  have d3 : decide (300 < (xs.length : Int)) = false := by simp; omega
  have hmk := run_makeMap_some 138 3 4 (xs.length : Int) Tryz.underlying138
  go_enter Tryz.func50, Tryz.ntmps50
  go_wp2_with fail
  obtain ⟨W, hW⟩ : ∃ W, W = (w.alloc (.cells #[.slice A xs.length c, .int .i64 next] 51)).alloc (.map #[] 0) := ⟨_, rfl⟩
  have t0 : Two W w.heap.size (.slice A xs.length c) (.int .i64 next) := by rw [hW]; exact (Two.new _ _ _ _).alloc (by simp) _
  have m0 : IntSet W (w.heap.size + 1) (vers xs 0) := by
    rw [hW]; have := IntSet.made (w.alloc (.cells #[.slice A xs.length c, .int .i64 next] 51)); simpa [vers] using this
  have b0 : Below w.heap.size w W := by rw [hW]; exact bal (bal (Below.refl _ _) _) _
  rw [← hW]
  clear hW hmk
  have T0 := Lib.hid t0; clear t0
  have M0 := Lib.hid m0; clear m0
  go_loopw [27] (fun i wr => ∃ k : Nat, k ≤ xs.length ∧ i = .int .i64 k ∧ Hid (PreOK xs next k) ∧ Hid (Two wr w.heap.size (.slice A xs.length c) (.int .i64 next)) ∧ Hid (IntSet wr (w.heap.size + 1) (vers xs k)) ∧ Below w.heap.size w wr) (fun i _ => xs.length - (intOf i).toNat)
  case atStart => exact ⟨0, by omega, rfl, Lib.hid ⟨fun i _ h => by omega, fun i _ h => by omega, fun i j _ _ h => by omega⟩, T0, M0, b0⟩
  case round =>
    clear T0 M0 b0
    obtain ⟨k, hk, rfl, Hp, HT, HM, hb⟩ := hrel
    by_cases hlt : k < xs.length
    · obtain ⟨b, off, rfl, hbB, p0, p1, p2⟩ := ObjsAt.obj (Sl.below H.out hb hB) hlt
      have hfit : xs[k].fit := Hf.out _ (List.getElem_mem hlt)
      have Hfit := Lib.hid hfit; clear hfit
      obtain ⟨t10, t11⟩ := HT.out
      have hms : w.heap.size + 1 < wr.heap.size := HM.out.lt
      have hws : w.heap.size < wr.heap.size := by omega
      go_wp2_with fail
      obtain ⟨Wc, hWc⟩ : ∃ Wc, Wc = wr.alloc (.cells #[.string xs[k].key, .int .i64 xs[k].ver, .string xs[k].data] 92) := ⟨_, rfl⟩
      have o0 : Wc.cell? ⟨wr.heap.size, 0, none⟩ = some (.string xs[k].key) := by rw [hWc]; simp
      have o1 : Wc.cell? ⟨wr.heap.size, 1, none⟩ = some (.int .i64 xs[k].ver) := by rw [hWc]; simp
      have bc : Below wr.heap.size wr Wc := by rw [hWc]; exact bal (Below.refl _ _) _
      have sc : wr.heap.size < Wc.heap.size := by rw [hWc]; simp
      rw [← hWc]
      clear hWc p0 p1 p2 t10 t11
      have O0 := Lib.hid o0; clear o0
      have O1 := Lib.hid o1; clear o1
      refine (objRight_any xs[k] next Wc Hfit.out.1).mono ?_
      rintro e w2 ⟨bb, hbb, rfl, hb2⟩
      have b2 : Below wr.heap.size wr w2 := bnext bc hb2
      have bw : Below w.heap.size w w2 := bnext hb b2
      have z2 : wr.heap.size < w2.heap.size := by have := hb2.size; omega
      have q0 : w2.cell? ⟨wr.heap.size, 0, none⟩ = some (.string xs[k].key) := (hb2.cell sc).trans O0.out
      have q1 : w2.cell? ⟨wr.heap.size, 1, none⟩ = some (.int .i64 xs[k].ver) := (hb2.cell sc).trans O1.out
      obtain ⟨t10, t11⟩ := HT.out.below b2 hws
      have M2 := Lib.hid (HM.out.below b2)
      have S2 := Lib.hid (Sl.below H.out bw hB)
      have Hbb := Lib.hid hbb; clear hbb
      clear bc hb2 O0 O1 b2 HT HM
      cases bb
      · have hn : ¬ StoreP xs next := not_store_obj hlt (fun h => by have := Hbb.out.2 h; cases this)
        have Hn := Lib.hid hn; clear hn
        go_wp2
        go_ret
        exact ⟨false, by simp [Hn.out], rfl, bw⟩
      · have hok : ObjOK next xs[k] := Hbb.out.1 rfl
        have Hok := Lib.hid hok; clear hok Hbb
        have hlk := M2.out.look (wf_ver Hfit.out)
        cases hct : (vers xs k).contains xs[k].ver
        · have Hct := Lib.hid hct
          rw [hct] at hlk
          clear hct
          by_cases h0 : 0 < k
          · obtain ⟨j, rfl⟩ : ∃ j, k = j + 1 := ⟨k - 1, by omega⟩
            have hk1 : j < xs.length := by omega
            obtain ⟨b', off', e, _, r0, _, _⟩ := ObjsAt.obj S2.out hk1
            injection e with e
            injection e with e1 e2
            subst e1 e2
            clear h0
            have wr1 : IntKind.i64.wrap ((j : Int) + 1 - 1) = (j : Int) := by rw [IntKind.wrap_i64]; omega
            have j0 : (0 : Int) ≤ (j : Int) := by omega
            have j1 : (j : Int) < (xs.length : Int) := by omega
            cases hbl : bl xs[j].key xs[j + 1].key
            · have hn : ¬ StoreP xs next := not_store_key (k := j + 1) hlt (by omega) hbl
              have Hn := Lib.hid hn; clear hn
              unfold bl at hbl
              go_wp2_with fail
              go_quiet (fail)
              go_wp2
              go_ret
              exact ⟨false, by simp [Hn.out], rfl, bdrewN bw _⟩
            · have Hbl := Lib.hid hbl
              unfold bl at hbl
              go_wp2_with fail
              go_quiet (fail)
              clear wr1 j0 j1 hbl r0
              obtain ⟨D, hown, hat⟩ := M2.out
              have Hat := Lib.hid hat; clear hat
              have hm := hown.isMap
              have Hm := Lib.hid hm; clear hm
              have Hown := Lib.hid hown; clear hown
              have hsz : (vers xs (j + 1)).length < maxLen := by simp [vers, maxLen] <;> omega
              have Hsz := Lib.hid hsz; clear hsz
              go_wp2_with (at_mapUpdate; refine wpList_mapUpdate_own _ rfl _ _ _ 138 rfl 3 4 intKeyed Tryz.underlying138 _ (w.heap.size + 1) _ D rfl (by exact Hown.out) Hsz.out _ _ _ rfl rfl (keyOf_int_mk Tryz.underlying3 (wf_ver Hfit.out)) _ [] (plainElem_bool Tryz.underlying4 true) ?_; intro w3 hown3 hg3)
              have hp : PreOK xs next (j + 1 + 1) := Hp.out.succ hlt Hok.out Hct.out (fun _ => Hbl.out)
              have Hp2 := Lib.hid hp; clear hp
              have hi : IntSet w3 (w.heap.size + 1) (vers xs (j + 1 + 1)) := by rw [vers_succ xs _ hlt]; exact IntSet.after (w := w2) rfl Hat.out Hm.out hown3
              have Hi := Lib.hid hi; clear hi hown3
              have hg3' : w2.grownBy w3 (some (w.heap.size + 1)) := ⟨hg3.os, hg3.tape, hg3.output, hg3.size, hg3.block⟩
              have ht3 : Two w3 w.heap.size (.slice (some ⟨b, off, none⟩) xs.length c) (.int .i64 next) := Two.grown ⟨t10, t11⟩ hg3' (by omega) (fun g e => by injection e with e; omega)
              have Ht3 := Lib.hid ht3; clear ht3
              have hb3 : Below w.heap.size w w3 := bw.trans (below_of_grown hg3' (by omega) (fun g e => by injection e with e; omega))
              go_roundw
              case rel => exact ⟨j + 1 + 1, by omega, by go_num, Hp2, Ht3, Hi, hb3⟩
              case measure => simp [intOf]; omega
          · obtain rfl : k = 0 := by omega
            clear h0
            have d0 : decide (0 < ((0 : Nat) : Int)) = false := by simp
            go_wp2_with fail
            go_quiet (fail)
            obtain ⟨D, hown, hat⟩ := M2.out
            have Hat := Lib.hid hat; clear hat
            have hm := hown.isMap
            have Hm := Lib.hid hm; clear hm
            have Hown := Lib.hid hown; clear hown
            have hsz : (vers xs (0)).length < maxLen := by simp [vers, maxLen] <;> omega
            have Hsz := Lib.hid hsz; clear hsz
            go_wp2_with (at_mapUpdate; refine wpList_mapUpdate_own _ rfl _ _ _ 138 rfl 3 4 intKeyed Tryz.underlying138 _ (w.heap.size + 1) _ D rfl (by exact Hown.out) Hsz.out _ _ _ rfl rfl (keyOf_int_mk Tryz.underlying3 (wf_ver Hfit.out)) _ [] (plainElem_bool Tryz.underlying4 true) ?_; intro w3 hown3 hg3)
            have hp : PreOK xs next (0 + 1) := Hp.out.succ hlt Hok.out Hct.out (fun h => absurd h (by omega))
            have Hp2 := Lib.hid hp; clear hp
            have hi : IntSet w3 (w.heap.size + 1) (vers xs (0 + 1)) := by rw [vers_succ xs _ hlt]; exact IntSet.after (w := w2) rfl Hat.out Hm.out hown3
            have Hi := Lib.hid hi; clear hi hown3
            have hg3' : w2.grownBy w3 (some (w.heap.size + 1)) := ⟨hg3.os, hg3.tape, hg3.output, hg3.size, hg3.block⟩
            have ht3 : Two w3 w.heap.size (.slice (some ⟨b, off, none⟩) xs.length c) (.int .i64 next) := Two.grown ⟨t10, t11⟩ hg3' (by omega) (fun g e => by injection e with e; omega)
            have Ht3 := Lib.hid ht3; clear ht3
            have hb3 : Below w.heap.size w w3 := bw.trans (below_of_grown hg3' (by omega) (fun g e => by injection e with e; omega))
            go_roundw
            case rel => exact ⟨0 + 1, by omega, by go_num, Hp2, Ht3, Hi, hb3⟩
            case measure => simp [intOf]; omega
        · have hn : ¬ StoreP xs next := not_store_ver hlt hct
          have Hn := Lib.hid hn; clear hn
          rw [hct] at hlk
          clear hct
          go_wp2
          go_ret
          exact ⟨false, by simp [Hn.out], rfl, bw⟩
    · have hyes : StoreP xs next := ⟨n1, n2, hl, by obtain rfl : k = xs.length := by omega
                                                    exact Hp.out⟩
      have Hy := Lib.hid hyes; clear hyes
      go_wp2
      go_ret
      exact ⟨true, by simp [Hy.out], rfl, hb⟩

theorem right_any (A : Option Addr) (c : Nat) (next : Int) (xs : List GObj) (B : Nat) (w : World) (h : ObjsAt w B A xs) (hB : B ≤ w.heap.size) (hf : ∀ o ∈ xs, o.fit) (hl : xs.length ≤ 1048576) :
    Calls Tryz.prog 50 #[.agg #[.slice A xs.length c, .int .i64 next]] w (IsBB (StoreP xs next) w) := by
  by_cases n1 : 1 ≤ next
  · by_cases n2 : next ≤ 1000000000
    · by_cases n3 : xs.length ≤ 300
      · exact right_in A c next xs B w h hB hf n1 n2 n3
      · have hn : ¬ StoreP xs next := fun h => n3 h.2.2.1
        have Hn := Lib.hid hn; clear hn h hf
        have d1 : decide (next < 1) = false := by simp; omega
        have d2 : decide (1000000000 < next) = false := by simp; omega
        have d3 : decide (300 < (xs.length : Int)) = true := by simp; omega
        go_enter Tryz.func50, Tryz.ntmps50
        go_wp2
        go_ret
        exact ⟨false, by simp [Hn.out], rfl, bal (Below.refl _ _) _⟩
    · have hn : ¬ StoreP xs next := fun h => n2 h.2.1
      have Hn := Lib.hid hn; clear hn h hf
      have d1 : decide (next < 1) = false := by simp; omega
      have d2 : decide (1000000000 < next) = true := by simp; omega
      go_enter Tryz.func50, Tryz.ntmps50
      go_wp2
      go_ret
      exact ⟨false, by simp [Hn.out], rfl, bal (Below.refl _ _) _⟩
  · have hn : ¬ StoreP xs next := fun h => n1 h.1
    have Hn := Lib.hid hn; clear hn h hf
    have d1 : decide (next < 1) = true := by simp; omega
    go_enter Tryz.func50, Tryz.ntmps50
    go_wp2
    go_ret
    exact ⟨false, by simp [Hn.out], rfl, bal (Below.refl _ _) _⟩

end Go.Proofs.YthmpmagajbmpaaaGreatDoor

/- Contract of the model's StoreOK: true just of a store. -/
namespace Go.Proofs.YthmpmagajbmpaaaGreatDoor
open Go.ChangeShapes Go.WideShapes Go.ChangeAt Go.RowKit Go.Maps
set_option linter.unusedVariables false

theorem specKey_yes (s : ByteArray) (w : World) (hs : s.size ≤ maxLen) (h : KeyP s) : Calls Tryz.prog 82 #[.string s] w fun e w' => e = .returned (.bool true) ∧ w' = w :=
  (specKey_any s w hs).mono fun e w' ⟨b, hb, he, hw⟩ => ⟨by rw [he, hb.2 h], hw.symm⟩

theorem specKey_no (s : ByteArray) (w : World) (hs : s.size ≤ maxLen) (h : ¬ KeyP s) : Calls Tryz.prog 82 #[.string s] w fun e w' => e = .returned (.bool false) ∧ w' = w :=
  (specKey_any s w hs).mono fun e w' ⟨b, hb, he, hw⟩ => ⟨by rw [he]; cases b; (· rfl); (· exact absurd (hb.1 rfl) h), hw.symm⟩

theorem l01In_yes (n a b : Int) (w : World) (h : a ≤ n ∧ n ≤ b) : Calls Tryz.prog 56 #[.int .i64 n, .int .i64 a, .int .i64 b] w fun e w' => e = .returned (.bool true) ∧ w' = w :=
  (l01In_any n a b w).mono fun e w' ⟨he, hw⟩ => ⟨by rw [he]; simp [h], hw.symm⟩

theorem l01In_no (n a b : Int) (w : World) (h : ¬ (a ≤ n ∧ n ≤ b)) : Calls Tryz.prog 56 #[.int .i64 n, .int .i64 a, .int .i64 b] w fun e w' => e = .returned (.bool false) ∧ w' = w :=
  (l01In_any n a b w).mono fun e w' ⟨he, hw⟩ => ⟨by rw [he]; simp [h], hw.symm⟩

/-- one more than the greatest version that the model lets by: next itself, but at the least of all numbers, where one less is the greatest -/
def nxw (next : Int) : Int := wrap64 (next - 1) + 1

theorem nxw_eq {next : Int} (h1 : 1 ≤ next) (h2 : next ≤ 1000000000) : nxw next = next := by unfold nxw wrap64; omega

theorem not_store_of {xs : List GObj} {next : Int} (h : ¬ StoreP xs (nxw next)) : ¬ StoreP xs next := fun hs => h (by rw [nxw_eq hs.1 hs.2.1]; exact hs)

set_option maxRecDepth 100000 in
set_option maxHeartbeats 1000000 in
theorem specStoreOK_any (A : Option Addr) (c : Nat) (next : Int) (xs : List GObj) (B : Nat) (w : World) (h : ObjsAt w B A xs) (hB : B ≤ w.heap.size) (hf : ∀ o ∈ xs, o.fit) (hl : xs.length ≤ 1048576) :
    Calls Tryz.prog 47 #[.agg #[.slice A xs.length c, .int .i64 next]] w (IsBB (StoreP xs next) w) := by
  have H := Lib.hid h; clear h
  have Hf := Lib.hid hf; clear hf
  go_enter Tryz.func47, Tryz.ntmps47
  go_wp2_with fail
  obtain ⟨W, hW⟩ : ∃ W, W = w.alloc (.cells #[.slice A xs.length c, .int .i64 next] 51) := ⟨_, rfl⟩
  have t0 : Two W w.heap.size (.slice A xs.length c) (.int .i64 next) := by rw [hW]; exact Two.new _ _ _ _
  have b0 : Below w.heap.size w W := by rw [hW]; exact bal (Below.refl _ _) _
  have s0 : w.heap.size < W.heap.size := by rw [hW]; simp
  rw [← hW]
  clear hW
  have T0 := Lib.hid t0; clear t0
  go_loopw [3] (fun i wr => ∃ k : Nat, k ≤ xs.length ∧ i = .int .i64 k ∧ Hid (PreOK xs (nxw next) k) ∧ Hid (Two wr w.heap.size (.slice A xs.length c) (.int .i64 next)) ∧ w.heap.size < wr.heap.size ∧ Below w.heap.size w wr) (fun i _ => xs.length - (intOf i).toNat)
  case atStart => exact ⟨0, by omega, rfl, Lib.hid ⟨fun i _ h => by omega, fun i _ h => by omega, fun i j _ _ h => by omega⟩, T0, s0, b0⟩
  case round =>
    clear T0 b0 s0
    obtain ⟨k, hk, rfl, Hp, HT, hws, hb⟩ := hrel
    obtain ⟨t10, t11⟩ := HT.out
    by_cases hlt : k < xs.length
    · obtain ⟨b, off, rfl, hbB, p0, p1, p2⟩ := ObjsAt.obj (Sl.below H.out hb hB) hlt
      have hfit : xs[k].fit := Hf.out _ (List.getElem_mem hlt)
      have Hfit := Lib.hid hfit; clear hfit
      go_wp2_with fail
      obtain ⟨Wc, hWc⟩ : ∃ Wc, Wc = wr.alloc (.cells #[.string xs[k].key, .int .i64 xs[k].ver, .string xs[k].data] 92) := ⟨_, rfl⟩
      have o0 : Wc.cell? ⟨wr.heap.size, 0, none⟩ = some (.string xs[k].key) := by rw [hWc]; simp
      have o1 : Wc.cell? ⟨wr.heap.size, 1, none⟩ = some (.int .i64 xs[k].ver) := by rw [hWc]; simp
      have o2 : Wc.cell? ⟨wr.heap.size, 2, none⟩ = some (.string xs[k].data) := by rw [hWc]; simp
      have bc : Below wr.heap.size wr Wc := by rw [hWc]; exact bal (Below.refl _ _) _
      have sc : wr.heap.size < Wc.heap.size := by rw [hWc]; simp
      rw [← hWc]
      clear hWc p0 p1 p2 t10 t11
      obtain ⟨t10, t11⟩ := HT.out.below bc hws
      have bw : Below w.heap.size w Wc := bnext hb bc
      have HT2 := Lib.hid (HT.out.below bc hws)
      have S2 := Lib.hid (Sl.below H.out bw hB)
      have sw : w.heap.size < Wc.heap.size := by omega
      clear HT bc
      by_cases c1 : KeyP xs[k].key
      · by_cases c2 : 1 ≤ xs[k].ver ∧ xs[k].ver ≤ wrap64 (next - 1)
        · have C1 := Lib.hid c1; clear c1
          have C2 := Lib.hid c2; clear c2
          by_cases c3 : xs[k].data.size ≤ 600
          · have d3 : decide (600 < (xs[k].data.size : Int)) = false := by simp; omega
            by_cases h0 : 0 < k
            · obtain ⟨j, rfl⟩ : ∃ j, k = j + 1 := ⟨k - 1, by omega⟩
              have hk1 : j < xs.length := by omega
              obtain ⟨b', off', e, _, r0, _, _⟩ := ObjsAt.obj S2.out hk1
              injection e with e
              injection e with e1 e2
              subst e1 e2
              clear h0
              have wr1 : IntKind.i64.wrap ((j : Int) + 1 - 1) = (j : Int) := by rw [IntKind.wrap_i64]; omega
              have j0 : (0 : Int) ≤ (j : Int) := by omega
              have j1 : (j : Int) < (xs.length : Int) := by omega
              cases hbl : bl xs[j].key xs[j + 1].key
              · have hn : ¬ StoreP xs next := not_store_key (k := j + 1) hlt (by omega) hbl
                have Hn := Lib.hid hn; clear hn
                unfold bl at hbl
                go_quiet (first | (go_at_call 82; exact Calls.quiet_of_same (specKey_yes _ _ Hfit.out.1.1 C1.out)) | (go_at_call 56; exact Calls.quiet_of_same (l01In_yes _ _ _ _ C2.out)))
                go_wp2
                go_ret
                exact ⟨false, by simp [Hn.out], rfl, bdrewN bw _⟩
              · have Hbl := Lib.hid hbl
                unfold bl at hbl
                go_quiet (first | (go_at_call 82; exact Calls.quiet_of_same (specKey_yes _ _ Hfit.out.1.1 C1.out)) | (go_at_call 56; exact Calls.quiet_of_same (l01In_yes _ _ _ _ C2.out)))
                go_wp2_with fail
                have bq : Below Wc.heap.size Wc (Wc.drewN nq) := bdrewN (Below.refl _ _) _
                generalize Wc.drewN nq = Wd at bq ⊢
                have qo1 : Wd.cell? ⟨wr.heap.size, 1, none⟩ = some (.int .i64 xs[j + 1].ver) := (bq.cell sc).trans o1
                have bwd : Below w.heap.size w Wd := bnext bw bq
                have HTd := Lib.hid (HT2.out.below bq sw)
                have Sd := Lib.hid (Sl.below S2.out bq (by have := hb.size; omega))
                have scd : wr.heap.size < Wd.heap.size := by have := bq.size; omega
                have swd : w.heap.size < Wd.heap.size := by have := bq.size; omega
                clear o0 o1 o2 t10 t11 bq HT2 S2 wr1 j0 j1 hbl r0
                have Qo1 := Lib.hid qo1; clear qo1
                obtain ⟨wo, hwo⟩ : ∃ wo : World, wo = wr := ⟨_, rfl⟩
                rw [← hwo] at Qo1 scd
                have Hwo := Lib.hid hwo; clear hwo
                go_loopw [5] (fun i wi => ∃ jj : Nat, jj ≤ j + 1 ∧ i = .int .i64 jj ∧ Hid (∀ i (h : i < xs.length), i < jj → xs[i].ver ≠ xs[j + 1].ver) ∧ Below Wd.heap.size Wd wi) (fun i _ => j + 1 - (intOf i).toNat)
                case atStart => exact ⟨0, by omega, rfl, Lib.hid (fun i _ h => by omega), Below.refl _ _⟩
                case round =>
                  obtain ⟨j2, hj2, rfl, Hv, hbi⟩ := hrel
                  have bwi := bnext bwd hbi
                  obtain ⟨y10, y11⟩ := HTd.out.below hbi (by omega)
                  by_cases hjk : j2 < j + 1
                  · have hj3 : j2 < xs.length := by omega
                    obtain ⟨b', off', e, _, _, r1, _⟩ := ObjsAt.obj (Sl.below Sd.out hbi (by omega)) hj3
                    injection e with e
                    injection e with e1 e2
                    subst e1 e2
                    have q1 := (hbi.cell scd).trans Qo1.out
                    rw [Hwo.out] at q1
                    by_cases hve : xs[j2].ver = xs[j + 1].ver
                    · have hn : ¬ StoreP xs next := fun hs => hs.2.2.2.2.2 j2 (j + 1) hlt hjk hlt hve
                      have Hn := Lib.hid hn; clear hn
                      have e1 : (xs[j2].ver == xs[j + 1].ver) = true := by simpa using hve
                      clear hve
                      go_wp2_with fail
                      go_quiet (fail)
                      go_wp2
                      go_ret
                      exact ⟨false, by simp [Hn.out], rfl, bdrewN bwi _⟩
                    · have hn : ∀ i (h : i < xs.length), i < j2 + 1 → xs[i].ver ≠ xs[j + 1].ver := fun i h hi => by
                        by_cases ei : i = j2
                        · subst ei; exact hve
                        · exact Hv.out i h (by omega)
                      have Hn := Lib.hid hn; clear hn
                      have e1 : (xs[j2].ver == xs[j + 1].ver) = false := by simpa using hve
                      clear hve
                      go_wp2_with fail
                      go_quiet (fail)
                      go_wp2
                      go_roundw
                      case rel => exact ⟨j2 + 1, by omega, by go_num, Hn, bdrewN hbi _⟩
                      case measure => simp [intOf]; omega
                  · have hp : PreOK xs (nxw next) (j + 1 + 1) := Hp.out.succ hlt ⟨C1.out, C2.out.1, by unfold nxw; have := C2.out.2; omega, c3⟩ (by
                        cases hc : (vers xs (j + 1)).contains xs[j + 1].ver
                        · rfl
                        · obtain ⟨i, hi, hik, he⟩ := (vers_has xs _ _ (by omega)).1 hc
                          exact absurd he (Hv.out i hi (by omega))) (fun _ => Hbl.out)
                    have Hp2 := Lib.hid hp; clear hp
                    have Ht2 := Lib.hid (HTd.out.below hbi (by omega))
                    have hwi : w.heap.size < _ := Nat.lt_of_lt_of_le (show w.heap.size < Wd.heap.size by omega) hbi.size
                    go_wp2
                    go_roundw
                    case rel => exact ⟨j + 1 + 1, by omega, by go_num, Hp2, Ht2, hwi, bwi⟩
                    case measure => simp [intOf]; omega
            · obtain rfl : k = 0 := by omega
              clear h0
              have d0 : decide (0 < ((0 : Nat) : Int)) = false := by simp
              go_quiet (first | (go_at_call 82; exact Calls.quiet_of_same (specKey_yes _ _ Hfit.out.1.1 C1.out)) | (go_at_call 56; exact Calls.quiet_of_same (l01In_yes _ _ _ _ C2.out)))
              go_wp2_with fail
              have bq : Below Wc.heap.size Wc (Wc.drewN nq) := bdrewN (Below.refl _ _) _
              generalize Wc.drewN nq = Wd at bq ⊢
              have qo1 : Wd.cell? ⟨wr.heap.size, 1, none⟩ = some (.int .i64 xs[0].ver) := (bq.cell sc).trans o1
              have bwd : Below w.heap.size w Wd := bnext bw bq
              have HTd := Lib.hid (HT2.out.below bq sw)
              have Sd := Lib.hid (Sl.below S2.out bq (by have := hb.size; omega))
              have scd : wr.heap.size < Wd.heap.size := by have := bq.size; omega
              have swd : w.heap.size < Wd.heap.size := by have := bq.size; omega
              clear o0 o1 o2 t10 t11 bq HT2 S2 d0
              have Qo1 := Lib.hid qo1; clear qo1
              obtain ⟨wo, hwo⟩ : ∃ wo : World, wo = wr := ⟨_, rfl⟩
              rw [← hwo] at Qo1 scd
              have Hwo := Lib.hid hwo; clear hwo
              go_loopw [5] (fun i wi => ∃ j : Nat, j ≤ 0 ∧ i = .int .i64 j ∧ Hid (∀ i (h : i < xs.length), i < j → xs[i].ver ≠ xs[0].ver) ∧ Below Wd.heap.size Wd wi) (fun i _ => 0 - (intOf i).toNat)
              case atStart => exact ⟨0, by omega, rfl, Lib.hid (fun i _ h => by omega), Below.refl _ _⟩
              case round =>
                obtain ⟨j2, hj2, rfl, Hv, hbi⟩ := hrel
                have bwi := bnext bwd hbi
                obtain ⟨y10, y11⟩ := HTd.out.below hbi (by omega)
                by_cases hjk : j2 < 0
                · exact absurd hjk (by omega)
                · have hp : PreOK xs (nxw next) (0 + 1) := Hp.out.succ hlt ⟨C1.out, C2.out.1, by unfold nxw; have := C2.out.2; omega, c3⟩ (by
                      cases hc : (vers xs (0)).contains xs[0].ver
                      · rfl
                      · obtain ⟨i, hi, hik, he⟩ := (vers_has xs _ _ (by omega)).1 hc
                        exact absurd he (Hv.out i hi (by omega))) (fun h => absurd h (by omega))
                  have Hp2 := Lib.hid hp; clear hp
                  have Ht2 := Lib.hid (HTd.out.below hbi (by omega))
                  have hwi : w.heap.size < _ := Nat.lt_of_lt_of_le (show w.heap.size < Wd.heap.size by omega) hbi.size
                  go_wp2
                  go_roundw
                  case rel => exact ⟨0 + 1, by omega, by go_num, Hp2, Ht2, hwi, bwi⟩
                  case measure => simp [intOf]; omega
          · have hn : ¬ StoreP xs next := not_store_of (not_store_obj hlt (fun h => c3 h.2.2.2))
            have Hn := Lib.hid hn; clear hn
            have d3 : decide (600 < (xs[k].data.size : Int)) = true := by simp; omega
            go_quiet (first | (go_at_call 82; exact Calls.quiet_of_same (specKey_yes _ _ Hfit.out.1.1 C1.out)) | (go_at_call 56; exact Calls.quiet_of_same (l01In_yes _ _ _ _ C2.out)))
            go_wp2
            go_ret
            exact ⟨false, by simp [Hn.out], rfl, bdrewN bw _⟩
        · have hn : ¬ StoreP xs next := not_store_of (not_store_obj hlt (fun h => c2 ⟨h.2.1, by have := h.2.2.1; unfold nxw at this; omega⟩))
          have Hn := Lib.hid hn; clear hn
          have C1 := Lib.hid c1; clear c1
          have C2 := Lib.hid c2; clear c2
          go_quiet (first | (go_at_call 82; exact Calls.quiet_of_same (specKey_yes _ _ Hfit.out.1.1 C1.out)) | (go_at_call 56; exact Calls.quiet_of_same (l01In_no _ _ _ _ C2.out)))
          go_wp2
          go_ret
          exact ⟨false, by simp [Hn.out], rfl, bdrewN bw _⟩
      · have hn : ¬ StoreP xs next := not_store_of (not_store_obj hlt (fun h => c1 h.1))
        have Hn := Lib.hid hn; clear hn
        have C1 := Lib.hid c1; clear c1
        go_quiet ((go_at_call 82; exact Calls.quiet_of_same (specKey_no _ _ Hfit.out.1.1 C1.out)))
        go_wp2
        go_ret
        exact ⟨false, by simp [Hn.out], rfl, bdrewN bw _⟩
    · obtain rfl : k = xs.length := by omega
      by_cases n3 : xs.length ≤ 300
      · have d3 : decide ((xs.length : Int) ≤ 300) = true := by simp; omega
        go_wp2_with fail
        refine (l01In_any _ _ _ _).mono ?_
        rintro e w1 ⟨rfl, rfl⟩
        have hiff : decide (1 ≤ next ∧ next ≤ 1000000000) = true ↔ StoreP xs next := by
          simp only [decide_eq_true_eq]
          exact ⟨fun ⟨a, b⟩ => ⟨a, b, n3, by have := Hp.out; rwa [nxw_eq a b] at this⟩, fun h => ⟨h.1, h.2.1⟩⟩
        have Hi := Lib.hid hiff; clear hiff
        generalize decide (1 ≤ next ∧ next ≤ 1000000000) = bb at *
        go_wp2
        go_ret
        exact ⟨bb, Hi.out, rfl, hb⟩
      · have d3 : decide ((xs.length : Int) ≤ 300) = false := by simp; omega
        have hn : ¬ StoreP xs next := fun h => n3 h.2.2.1
        have Hn := Lib.hid hn; clear hn
        go_wp2
        go_ret
        exact ⟨false, by simp [Hn.out], rfl, hb⟩

end Go.Proofs.YthmpmagajbmpaaaGreatDoor

/- Slices of texts: words for them, and contracts of the laws' helpers on them (eq, mark, held); of prefixes; of lengths. -/
namespace Go.Proofs.YthmpmagajbmpaaaGreatDoor
open Go.ChangeShapes Go.WideShapes Go.ChangeAt Go.RowKit
set_option linter.unusedVariables false

def sVals (s : ByteArray) : List Value := [.string s]

theorem sVals_length (s : ByteArray) : (sVals s).length = 1 := rfl

/-- a slice of texts -/
def StrsAt (w : World) (B : Nat) (A : Option Addr) (xs : List ByteArray) : Prop := Sl sVals 1 w B A xs

theorem StrsAt.at_ {w : World} {B : Nat} {A : Option Addr} {xs : List ByteArray} (h : StrsAt w B A xs) {k : Nat} (hk : k < xs.length) :
    ∃ b off, A = some ⟨b, off, none⟩ ∧ b < B ∧ w.cell? ⟨b, off + k, none⟩ = some (.string xs[k]) := by
  obtain ⟨b, off, e, hb, hc⟩ := Sl.at_ h hk
  have := hc 0 (.string xs[k]) rfl
  simp only [Nat.mul_one, Nat.add_zero] at this
  exact ⟨b, off, e, hb, this⟩

def smarks (k : Int) (n : Nat) : List ByteArray := (List.range n).map fun i : Nat => mtx (k + (i : Int))

theorem length_smarks (k : Int) (n : Nat) : (smarks k n).length = n := by simp [smarks]

theorem smarks_succ (k : Int) (n : Nat) : smarks k (n + 1) = smarks k n ++ [mtx (k + (n : Int))] := by simp [smarks, List.range_succ]

theorem smarks_at (k : Int) (n i : Nat) (h : i < (smarks k n).length) : (smarks k n)[i] = mtx (k + (i : Int)) := by simp [smarks]

/-- one text is the beginning of another -/
def pfx (s p : ByteArray) : Bool := decide (p.size ≤ s.size) && ((s.extract 0 p.size).toList == p.toList)

theorem litePrefix_any (s p : ByteArray) (w : World) (hs : s.size ≤ maxLen) (hp : p.size ≤ maxLen) : Calls Tryz.prog 210 #[.string s, .string p] w fun e w' => e = .returned (.bool (pfx s p)) ∧ w = w' := by
  unfold maxLen at hs hp
  by_cases h : p.size ≤ s.size
  · have e1 : pfx s p = ((s.extract 0 p.size).toList == p.toList) := by simp [pfx, h]
    have E1 := Lib.hid e1; clear e1
    go_enter Tryz.func210, Tryz.ntmps210
    go_wp2
    go_ret
    exact ⟨by rw [E1.out]; rfl, rfl⟩
  · have e1 : pfx s p = false := by simp [pfx, h]
    have E1 := Lib.hid e1; clear e1
    have d1 : decide ((p.size : Int) ≤ (s.size : Int)) = false := by simp; omega
    go_enter Tryz.func210, Tryz.ntmps210
    go_wp2
    go_ret
    exact ⟨by rw [E1.out]; rfl, rfl⟩

theorem hasPrefix_any (s p : ByteArray) (w : World) (hs : s.size ≤ maxLen) (hp : p.size ≤ maxLen) : Calls Tryz.prog 181 #[.string s, .string p] w fun e w' => e = .returned (.bool (pfx s p)) ∧ w = w' := by
  go_enter Tryz.func181, Tryz.ntmps181
  go_wp2_with fail
  refine (litePrefix_any s p w hs hp).mono ?_
  rintro e w' ⟨rfl, rfl⟩
  go_wp2
  go_ret
  exact ⟨rfl, rfl⟩

/-- some text is longer than a text may be -/
theorem anyTooLong_any (A : Option Addr) (c : Nat) (xs : List ByteArray) (B : Nat) (w : World) (h : StrsAt w B A xs) (hl : xs.length ≤ 4611686018427387904) (hf : ∀ s ∈ xs, s.size ≤ maxLen) :
    Calls Tryz.prog 128 #[.slice A xs.length c] w (IsB (∃ s ∈ xs, 65536 < s.size) w) := by
  unfold maxLen at hf
  have H := Lib.hid h; clear h
  have Hf := Lib.hid hf; clear hf
  go_enter Tryz.func128, Tryz.ntmps128
  go_wp2_with fail
  go_loop [7] (fun i => ∃ k : Nat, k ≤ xs.length ∧ i = .int .i64 k ∧ Hid (∀ s ∈ xs.take k, ¬ 65536 < s.size)) (fun i => xs.length - (intOf i).toNat)
  case atStart => exact ⟨0, by omega, rfl, Lib.hid (by simp)⟩
  case round =>
    obtain ⟨k, hk, rfl, Hn⟩ := hrel
    by_cases hlt : k < xs.length
    · obtain ⟨b, off, rfl, hb, p0⟩ := StrsAt.at_ H.out hlt
      have hs : xs[k].size ≤ 2 ^ 63 - 1 := Hf.out _ (List.getElem_mem hlt)
      by_cases hc : 65536 < xs[k].size
      · have hy : ∃ s ∈ xs, 65536 < s.size := ⟨xs[k], List.getElem_mem hlt, hc⟩
        have Hy := Lib.hid hy; clear hy
        have d : decide (65536 < (xs[k].size : Int)) = true := by simp; omega
        go_wp2
        go_ret
        exact IsB.yes Hy.out
      · have hn : ∀ s ∈ xs.take (k + 1), ¬ 65536 < s.size := by
          rw [List.take_succ_eq_append_getElem hlt]
          intro s hs'
          rcases List.mem_append.1 hs' with h1 | h1
          · exact Hn.out s h1
          · simp at h1; subst h1; exact hc
        have Hn2 := Lib.hid hn; clear hn
        have d : decide (65536 < (xs[k].size : Int)) = false := by simp; omega
        go_wp2
        go_round
        case rel => exact ⟨k + 1, by omega, by go_num, Hn2⟩
        case measure => simp [intOf]; omega
    · have hn : ¬ ∃ s ∈ xs, 65536 < s.size := by
        rintro ⟨s, hs, hc⟩
        have := Hn.out s (by rw [List.take_of_length_le (by omega)]; exact hs)
        exact this hc
      have Hno := Lib.hid hn; clear hn
      go_wp2
      go_ret
      exact IsB.no Hno.out

end Go.Proofs.YthmpmagajbmpaaaGreatDoor

/- A map from texts to objects that the call made: what it holds, looked up, written, struck; the fault that calls on a key look for first; contract of open. -/
namespace Go.Proofs.YthmpmagajbmpaaaGreatDoor
open Go.ChangeShapes Go.WideShapes Go.ChangeAt Go.RowKit Go.Maps
set_option linter.unusedVariables false

theorem strKeyed : Keyed Tryz.prog 9 := string_keyed Tryz.underlying9

/-- an object as a datum -/
def objD (o : GObj) : DataW Unit := .agg [.lit (.string o.key.data.toList), .lit (.int .i64 o.ver), .lit (.string o.data.data.toList)]

/-- how an element reads -/
def objElem (v : Value) : Option (DataW Unit × List MemPlace) :=
  match v with
  | .agg cs => match cs.toList with
    | [.string k, .int .i64 n, .string d] => some (.agg [.lit (.string k.data.toList), .lit (.int .i64 n), .lit (.string d.data.toList)], [])
    | _ => none
  | _ => none

theorem objElem_mk (o : GObj) : objElem (.agg #[.string o.key, .int .i64 o.ver, .string o.data]) = some (objD o, []) := rfl

theorem objD_inj {o p : GObj} (h : objD o = objD p) : o = p := by
  unfold objD at h
  injection h with h
  simp only [List.cons.injEq, DataW.lit.injEq, Lit.string.injEq, Lit.int.injEq, true_and, and_true] at h
  obtain ⟨h0, h1, h2⟩ := h
  obtain ⟨k, v, d⟩ := o
  obtain ⟨k', v', d'⟩ := p
  simp only at h0 h1 h2
  rw [bytes_inj h0, h1, bytes_inj h2]

theorem objElem_inv {v : Value} {o : GObj} {ps : List MemPlace} (h : objElem v = some (objD o, ps)) : v = .agg #[.string o.key, .int .i64 o.ver, .string o.data] := by
  unfold objElem at h
  split at h
  · rename_i cs
    split at h
    · rename_i k n d he
      simp only [Option.some.injEq, Prod.mk.injEq] at h
      have := objD_inj (o := ⟨k, n, d⟩) (p := o) h.1
      subst this
      have : cs = #[.string k, .int .i64 n, .string d] := by
        apply Array.toList_inj.1; rw [he]
      rw [this]
    · cases h
  · cases h

/-- a text as a key's datum -/
def kl (s : ByteArray) : Lit := .string s.data.toList

theorem kl_inj {a b : ByteArray} (h : kl a = kl b) : a = b := by unfold kl at h; injection h with h; exact bytes_inj h

/-- a datum says of each text which object it has -/
def Tells (D : DataW Unit) (f : ByteArray → Option GObj) : Prop := ∀ k, (∀ z, D.atKey (kl k) z = match f k with | some o => objD o | none => z)

theorem Tells.has {D : DataW Unit} {f : ByteArray → Option GObj} (h : Tells D f) (k : ByteArray) : Maps.has D (kl k) = (f k).isSome := by
  have hk := h k
  cases hf : f k with
  | none => rw [hf] at hk; exact has_false_of_atKey hk
  | some o => rw [hf] at hk; exact has_true_of_atKey hk

theorem Tells.empty : Tells (.map []) (fun _ => none) := fun k z => rfl

theorem Tells.put {D : DataW Unit} {f : ByteArray → Option GObj} (h : Tells D f) (hm : IsMap D) (k : ByteArray) (o : GObj) : Tells (D.put (kl k) (objD o)) (fun x => if x = k then some o else f x) := by
  intro x z
  by_cases e : x = k
  · subst e
    simp only [if_true]
    exact atKey_put_same hm (by trivial) _ _
  · simp only [e, if_false]
    rw [atKey_put_other (fun hh => e (kl_inj hh))]
    exact h x z

theorem Tells.del {D : DataW Unit} {f : ByteArray → Option GObj} (h : Tells D f) (k : ByteArray) : Tells (D.del (kl k)) (fun x => if x = k then none else f x) := by
  intro x z
  by_cases e : x = k
  · subst e
    simp only [if_true]
    exact atKey_del_same _
  · simp only [e, if_false]
    rw [atKey_del_other (fun hh => e (kl_inj hh))]
    exact h x z

/-- block b is a map that tells of f, of at most n entries -/
def ObjMap (w : World) (b n : Nat) (f : ByteArray → Option GObj) : Prop := ∃ D : DataW Unit, w.ownsMap Tryz.prog 9 objElem b n D ∧ Tells D f

theorem zeroObjV (w : World) : (zeroValue 92).run Tryz.prog w = .ok (.agg #[.string ⟨#[]⟩, .int .i64 0, .string ⟨#[]⟩]) w := by kernel_rfl

theorem ObjMap.made (w : World) : ObjMap (w.alloc (.map #[] 0)) w.heap.size 0 (fun _ => none) := ⟨_, World.ownsMap_made _ _ _ _, Tells.empty⟩

theorem ObjMap.lt {w : World} {b n : Nat} {f : ByteArray → Option GObj} (h : ObjMap w b n f) : b < w.heap.size := by obtain ⟨D, hown, _⟩ := h; exact hown.lt

theorem ObjMap.grown {w w' : World} {b n : Nat} {f : ByteArray → Option GObj} (h : ObjMap w b n f) {row : Option Nat} (hg : w.grownBy w' row) (hr : some b ≠ row) : ObjMap w' b n f := by
  obtain ⟨D, hown, hat⟩ := h
  exact ⟨D, hown.kept hg hr, hat⟩

theorem ObjMap.below {w w' : World} {b n : Nat} {f : ByteArray → Option GObj} (h : ObjMap w b n f) (hb : Below w.heap.size w w') : ObjMap w' b n f := h.grown (grown_of_below hb none) (by simp)

/-- the object that a look-up answers: the one that is there, or one of zeros -/
def orZero : Option GObj → GObj
  | some o => o
  | none => zObj

theorem ObjMap.look {w : World} {b n : Nat} {f : ByteArray → Option GObj} (h : ObjMap w b n f) {k : ByteArray} (hk : k.size ≤ maxLen) :
    (Instr.lookup 86 (.map (some b)) (.string k) true).run Tryz.prog w = .ok (.tuple #[.agg #[.string (orZero (f k)).key, .int .i64 (orZero (f k)).ver, .string (orZero (f k)).data], .bool (f k).isSome]) w := by
  obtain ⟨D, hown, hat⟩ := h
  obtain ⟨u, ps, hrun, hu⟩ := hown.look_ok strKeyed Tryz.underlying86 (zeroObjV w) (objElem_mk zObj) (WideMaps.keyOf_string_mk Tryz.underlying9 hk)
  have h1 := hat k (objD zObj)
  have hh := hat.has k
  unfold kl at h1 hh
  rw [h1] at hu
  rw [hrun, hh]
  cases hf : f k with
  | none => rw [hf] at hu; rw [objElem_inv hu]; rfl
  | some o => rw [hf] at hu; rw [objElem_inv hu]; rfl

theorem ObjMap.put {w : World} {b n : Nat} {f : ByteArray → Option GObj} (h : ObjMap w b n f) (hn : n < maxLen) {k : ByteArray} (hk : k.size ≤ maxLen) (o : GObj) :
    ∃ w', (Instr.mapUpdate 86 (.map (some b)) (.string k) (.agg #[.string o.key, .int .i64 o.ver, .string o.data])).run Tryz.prog w = .ok () w' ∧ ObjMap w' b (n + 1) (fun x => if x = k then some o else f x) ∧ w.grownBy w' (some b) := by
  obtain ⟨D, hown, hat⟩ := h
  obtain ⟨w', hrun, hown', hg⟩ := hown.update strKeyed Tryz.underlying86 hn (WideMaps.keyOf_string_mk Tryz.underlying9 hk) (objElem_mk o)
  exact ⟨w', hrun, ⟨_, hown', hat.put hown.isMap k o⟩, hg⟩

/-- the first object of a key -/
def look (xs : List GObj) (k : ByteArray) : Option GObj := xs.find? fun o => decide (o.key = k)

/-- what open's map tells behind j rounds: the last object of a key -/
def tell (xs : List GObj) : Nat → ByteArray → Option GObj
  | 0, _ => none
  | j + 1, x => match xs[j]? with
    | some o => if x = o.key then some o else tell xs j x
    | none => tell xs j x

theorem tell_succ (xs : List GObj) (j : Nat) (h : j < xs.length) : tell xs (j + 1) = fun x => if x = xs[j].key then some xs[j] else tell xs j x := by
  funext x
  simp [tell, List.getElem?_eq_getElem h]

end Go.Proofs.YthmpmagajbmpaaaGreatDoor

/- Contracts of (Store).open and of (Store).fault. -/
namespace Go.Proofs.YthmpmagajbmpaaaGreatDoor
open Go.ChangeShapes Go.WideShapes Go.ChangeAt Go.RowKit Go.Maps
set_option linter.unusedVariables false

theorem run_makeObjMap (n : Int) (w : World) : (Instr.makeMap 86 (some (.int .i64 n))).run Tryz.prog w = .ok (.map (some w.heap.size)) (w.alloc (.map #[] 0)) :=
  run_makeMap_some 86 9 92 n Tryz.underlying86 w

/-- a shelf: a struct of a map and a number, in a block of its own -/
def Shelf (w : World) (g m n : Nat) (next : Int) (f : ByteArray → Option GObj) : Prop :=
  Two w g (.map (some m)) (.int .i64 next) ∧ (∀ i, w.frozen? ⟨g, i, none⟩ = false) ∧ ObjMap w m n f ∧ g ≠ m ∧ g < w.heap.size

set_option maxRecDepth 100000 in
theorem open_any (A : Option Addr) (c : Nat) (next : Int) (xs : List GObj) (B : Nat) (w : World) (h : ObjsAt w B A xs) (hB : B ≤ w.heap.size) (hf : ∀ o ∈ xs, o.fit) (hl : xs.length ≤ 300) :
    Calls Tryz.prog 51 #[.agg #[.slice A xs.length c, .int .i64 next]] w fun e w' => ∃ g m, e = .returned (.pointer (some ⟨g, 0, none⟩)) ∧ Shelf w' g m xs.length next (tell xs xs.length) ∧ w.heap.size ≤ g ∧ w.heap.size ≤ m ∧ Below w.heap.size w w' := by
  have H := Lib.hid h; clear h
  have Hf := Lib.hid hf; clear hf
  have hmk := run_makeObjMap (xs.length : Int)
  go_enter Tryz.func51, Tryz.ntmps51
  go_wp2_with fail
  go_region
  obtain ⟨W, hW⟩ : ∃ W, W = (((w.alloc (.cells #[.slice A xs.length c, .int .i64 next] 51)).alloc (.map #[] 0)).alloc (.cells #[.map (some (w.heap.size + 1)), .int .i64 next] 88)).drew := ⟨_, rfl⟩
  have t1 : Two W w.heap.size (.slice A xs.length c) (.int .i64 next) := by rw [hW]; exact ((Two.new w _ _ _).alloc (by simp) _).alloc (by simp; omega) _
  have t2 : Two W (w.heap.size + 2) (.map (some (w.heap.size + 1))) (.int .i64 next) := by
    rw [hW]; have := Two.new ((w.alloc (.cells #[.slice A xs.length c, .int .i64 next] 51)).alloc (.map #[] 0)) (.map (some (w.heap.size + 1))) (.int .i64 next) 88
    have e : ((w.alloc (.cells #[.slice A xs.length c, .int .i64 next] 51)).alloc (.map #[] 0)).heap.size = w.heap.size + 2 := by simp
    rw [e] at this; exact this
  have f2 : ∀ i, W.frozen? ⟨w.heap.size + 2, i, none⟩ = false := fun i => by
    rw [hW]; have := free_alloc ((w.alloc (.cells #[.slice A xs.length c, .int .i64 next] 51)).alloc (.map #[] 0)) #[.map (some (w.heap.size + 1)), .int .i64 next] 88 0 (w.heap.size + 2) (by simp [blk]) i; simpa using this
  have m1 : ObjMap W (w.heap.size + 1) 0 (tell xs 0) := by
    rw [hW]
    have h1 := ObjMap.made (w.alloc (.cells #[.slice A xs.length c, .int .i64 next] 51))
    have h2 := h1.below (bal (Below.refl _ _) (.cells #[.map (some (w.heap.size + 1)), .int .i64 next] 88))
    obtain ⟨D, hD, hT⟩ := h2
    exact ⟨D, by simpa using hD.drew, hT⟩
  have b0 : Below w.heap.size w W := by rw [hW]; exact (bal (bal (bal (Below.refl _ _) _) _) _).drew
  have s0 : w.heap.size + 2 < W.heap.size := by rw [hW]; simp
  rw [← hW]
  clear hW hmk
  have T1 := Lib.hid t1
  have T2 := Lib.hid t2; clear t2
  have F2 := Lib.hid f2; clear f2
  have M1 := Lib.hid m1; clear m1
  obtain ⟨t10, t11⟩ := t1
  rw [show w.heap.size + 1 + 1 = w.heap.size + 2 from rfl]
  go_wp2_with fail
  go_loopw [17] (fun i wr => ∃ k : Nat, k ≤ xs.length ∧ i = .int .i64 k ∧ Hid (Two wr (w.heap.size + 2) (.map (some (w.heap.size + 1))) (.int .i64 next)) ∧ Hid (∀ i, wr.frozen? ⟨w.heap.size + 2, i, none⟩ = false) ∧ Hid (ObjMap wr (w.heap.size + 1) k (tell xs k)) ∧ w.heap.size + 2 < wr.heap.size ∧ Below w.heap.size w wr) (fun i _ => xs.length - (intOf i).toNat)
  case atStart => exact ⟨0, by omega, rfl, T2, F2, M1, s0, b0⟩
  case round =>
    clear T1 T2 F2 M1 s0 b0 t10 t11
    obtain ⟨k, hk, rfl, HT, HF, HM, hs, hb⟩ := hrel
    by_cases hlt : k < xs.length
    · obtain ⟨b, off, rfl, hbB, p0, p1, p2⟩ := ObjsAt.obj (Sl.below H.out hb hB) hlt
      have hkey : xs[k].key.size ≤ maxLen := (Hf.out _ (List.getElem_mem hlt)).1.1
      have Hkey := Lib.hid hkey; clear hkey
      go_wp2_with fail
      obtain ⟨Wc, hWc⟩ : ∃ Wc, Wc = wr.alloc (.cells #[.string xs[k].key, .int .i64 xs[k].ver, .string xs[k].data] 92) := ⟨_, rfl⟩
      have o0 : Wc.cell? ⟨wr.heap.size, 0, none⟩ = some (.string xs[k].key) := by rw [hWc]; simp
      have o1 : Wc.cell? ⟨wr.heap.size, 1, none⟩ = some (.int .i64 xs[k].ver) := by rw [hWc]; simp
      have o2 : Wc.cell? ⟨wr.heap.size, 2, none⟩ = some (.string xs[k].data) := by rw [hWc]; simp
      have bc : Below wr.heap.size wr Wc := by rw [hWc]; exact bal (Below.refl _ _) _
      rw [← hWc]
      clear hWc p0 p1 p2
      obtain ⟨t10, t11⟩ := HT.out.below bc hs
      have HTc := Lib.hid (HT.out.below bc hs)
      have HFc := Lib.hid (show ∀ i, Wc.frozen? ⟨w.heap.size + 2, i, none⟩ = false from fun i => (bc.frozen hs).trans (HF.out i))
      have HMc := Lib.hid (HM.out.below bc)
      have hbc := bnext hb bc
      have hsc : w.heap.size + 2 < Wc.heap.size := Nat.lt_of_lt_of_le hs bc.size
      clear bc
      go_still_tail 7, (by kernel_rfl)
      change wpList _ _ _ _ _ Wc.drew
      have hmd : ObjMap Wc.drew (w.heap.size + 1) k (tell xs k) := by obtain ⟨D, hD, hT⟩ := HMc.out; exact ⟨D, hD.drew, hT⟩
      obtain ⟨w3, hrun, hm3, hg3⟩ := hmd.put (by simp only [maxLen]; omega) Hkey.out xs[k]
      clear hmd o0 o1 o2 t10 t11
      have hg3' : Wc.grownBy w3 (some (w.heap.size + 1)) := ⟨hg3.os, hg3.tape, hg3.output, hg3.size, hg3.block⟩
      have HT3 := Lib.hid (HTc.out.grown hg3' hsc (fun g e => by injection e with e; omega))
      have HF3 := Lib.hid (show ∀ i, w3.frozen? ⟨w.heap.size + 2, i, none⟩ = false from fun i => (World.frozen?_of_block (a := ⟨w.heap.size + 2, i, none⟩) (hg3'.block (w.heap.size + 2) hsc (fun e => by injection e with e; omega))).trans (HFc.out i))
      rw [← tell_succ xs k hlt] at hm3
      have HM3 := Lib.hid hm3; clear hm3
      have hs3 : w.heap.size + 2 < w3.heap.size := Nat.lt_of_lt_of_le hsc hg3'.size
      have hb3 : Below w.heap.size w w3 := hbc.trans (below_of_grown hg3' (by omega) (fun g e => by injection e with e; omega))
      clear hg3 hg3'
      go_wp2
      go_roundw
      case rel => exact ⟨k + 1, by omega, by go_num, HT3, HF3, HM3, hs3, hb3⟩
      case measure => simp [intOf]; omega
    · obtain rfl : k = xs.length := by omega
      go_wp2
      go_ret
      exact ⟨w.heap.size + 2, w.heap.size + 1, rfl, ⟨HT.out, HF.out, HM.out, by omega, hs⟩, by omega, by omega, hb⟩

/-- what a call on a key finds ahead of its own codes -/
def FaultP (xs : List GObj) (next : Int) (key : ByteArray) (ts : List ByteArray) (code : Int) : Prop :=
  ((65536 < key.size ∨ ∃ t ∈ ts, 65536 < t.size) ∧ code = 2) ∨ (¬ (65536 < key.size ∨ ∃ t ∈ ts, 65536 < t.size) ∧ ¬ StoreP xs next ∧ code = 1) ∨
  (¬ (65536 < key.size ∨ ∃ t ∈ ts, 65536 < t.size) ∧ StoreP xs next ∧ ¬ KeyP key ∧ code = 19) ∨ (¬ (65536 < key.size ∨ ∃ t ∈ ts, 65536 < t.size) ∧ StoreP xs next ∧ KeyP key ∧ code = 0)

theorem fault_any (A : Option Addr) (c : Nat) (next : Int) (xs : List GObj) (key : ByteArray) (At : Option Addr) (ct : Nat) (ts : List ByteArray) (B : Nat) (w : World) (h : ObjsAt w B A xs) (ht : StrsAt w B At ts) (hB : B ≤ w.heap.size) (hf : ∀ o ∈ xs, o.fit) (hl : xs.length ≤ 1048576) (hk : key.size ≤ maxLen) (hts : ∀ t ∈ ts, t.size ≤ maxLen) (htl : ts.length ≤ 4) :
    Calls Tryz.prog 95 #[.agg #[.slice A xs.length c, .int .i64 next], .string key, .slice At ts.length ct] w fun e w' => ∃ code, FaultP xs next key ts code ∧ e = .returned (.int .i64 code) ∧ Below w.heap.size w w' := by
  have H := Lib.hid h; clear h
  have Ht := Lib.hid ht; clear ht
  have Hf := Lib.hid hf; clear hf
  have Hk := Lib.hid hk; clear hk
  have Hts := Lib.hid hts; clear hts
  go_enter Tryz.func95, Tryz.ntmps95
  go_wp2_with fail
  obtain ⟨W, hW⟩ : ∃ W, W = (w.alloc (.cells #[.slice A xs.length c, .int .i64 next] 51)).alloc (.cells #[.string key] 9) := ⟨_, rfl⟩
  have t1 : Two W w.heap.size (.slice A xs.length c) (.int .i64 next) := by rw [hW]; exact (Two.new _ _ _ _).alloc (by simp) _
  have k1 : W.cell? ⟨w.heap.size + 1, 0, none⟩ = some (.string key) := by rw [hW]; simp
  have b0 : Below w.heap.size w W := by rw [hW]; exact bal (bal (Below.refl _ _) _) _
  have s0 : w.heap.size + 1 < W.heap.size := by rw [hW]; simp
  rw [← hW]
  clear hW
  have hst : StrsAt W W.heap.size (some ⟨w.heap.size + 1, 0, none⟩) [key] := by
    intro _
    refine ⟨w.heap.size + 1, 0, rfl, s0, fun k hk j v hv => ?_⟩
    match k, j, hk, hv with
    | 0, 0, _, hv => simp [sVals] at hv; subst hv; simpa using k1
    | 0, j + 1, _, hv => simp [sVals] at hv
    | k + 1, _, hk, _ => simp at hk
  have T0 := Lib.hid t1; clear t1 k1
  refine (anyTooLong_any (some ⟨w.heap.size + 1, 0, none⟩) 1 [key] W.heap.size W hst (by simp) (by simp; exact Hk.out)).mono ?_
  rintro e w' ⟨b1, hb1, rfl, rfl⟩
  clear hst
  have hlg : b1 = true ↔ 65536 < key.size := by rw [hb1]; simp
  clear hb1
  cases b1
  · have nk : ¬ 65536 < key.size := fun h => by have := hlg.2 h; cases this
    have NK := Lib.hid nk; clear nk hlg
    go_wp2_with fail
    refine (anyTooLong_any At ct ts B W (Sl.below Ht.out b0 hB) (by omega) Hts.out).mono ?_
    rintro e w' ⟨b2, hb2, rfl, rfl⟩
    have H2 := Lib.hid hb2; clear hb2
    cases b2
    · have nl : ¬ (65536 < key.size ∨ ∃ t ∈ ts, 65536 < t.size) := fun h => h.elim NK.out (fun h => by have := H2.out.2 h; cases this)
      have NL := Lib.hid nl; clear nl H2
      obtain ⟨t10, t11⟩ := T0.out
      go_wp2_with fail
      refine (right_any A c next xs B W (Sl.below H.out b0 hB) (by omega) Hf.out hl).mono ?_
      rintro e w1 ⟨bb, hbb, rfl, hbr⟩
      have b1 := bnext b0 hbr
      clear hbr
      cases bb
      · have hr : FaultP xs next key ts 1 := .inr (.inl ⟨NL.out, (fun h => by have := hbb.2 h; cases this), rfl⟩)
        have Hr := Lib.hid hr; clear hr hbb
        go_wp2
        go_ret
        exact ⟨1, Hr.out, rfl, b1⟩
      · have hS : StoreP xs next := hbb.1 rfl
        have HS := Lib.hid hS; clear hS hbb
        go_wp2_with fail
        refine (key_any key w1 Hk.out).mono ?_
        rintro e w' ⟨bk, hbk, rfl, rfl⟩
        cases bk
        · have hr : FaultP xs next key ts 19 := .inr (.inr (.inl ⟨NL.out, HS.out, (fun h => by have := hbk.2 h; cases this), rfl⟩))
          have Hr := Lib.hid hr; clear hr hbk
          go_wp2
          go_ret
          exact ⟨19, Hr.out, rfl, b1⟩
        · have hr : FaultP xs next key ts 0 := .inr (.inr (.inr ⟨NL.out, HS.out, hbk.1 rfl, rfl⟩))
          have Hr := Lib.hid hr; clear hr hbk
          go_wp2
          go_ret
          exact ⟨0, Hr.out, rfl, b1⟩
    · have hr : FaultP xs next key ts 2 := .inl ⟨.inr (H2.out.1 rfl), rfl⟩
      have Hr := Lib.hid hr; clear hr H2
      go_wp2
      go_ret
      exact ⟨2, Hr.out, rfl, b0⟩
  · have hr : FaultP xs next key ts 2 := .inl ⟨.inl (hlg.1 rfl), rfl⟩
    have Hr := Lib.hid hr; clear hr hlg
    go_wp2
    go_ret
    exact ⟨2, Hr.out, rfl, b0⟩

end Go.Proofs.YthmpmagajbmpaaaGreatDoor

/- Contracts of GetObject of both packages. -/
namespace Go.Proofs.YthmpmagajbmpaaaGreatDoor
open Go.ChangeShapes Go.WideShapes Go.ChangeAt Go.RowKit Go.Maps
set_option linter.unusedVariables false

theorem bl_iff (a b : ByteArray) : bl a b = true ↔ a.data.toList < b.data.toList := by
  unfold bl
  rw [bytesLess_eq, ByteArray.toList_eq, ByteArray.toList_eq]
  simp

theorem key_lt {xs : List GObj} {next : Int} (hs : StoreP xs next) : ∀ (d i : Nat) (h : i + d + 1 < xs.length), xs[i].key.data.toList < xs[i + d + 1].key.data.toList
  | 0, i, h => (bl_iff _ _).1 (hs.2.2.2.2.1 i h h)
  | d + 1, i, h => List.lt_trans (key_lt hs d i (by omega)) ((bl_iff _ _).1 (hs.2.2.2.2.1 (i + d + 1) h h))

theorem key_ne {xs : List GObj} {next : Int} (hs : StoreP xs next) {i j : Nat} (hj : j < xs.length) (hij : i < j) : xs[i].key ≠ xs[j].key := by
  intro e
  have h := key_lt hs (j - i - 1) i (by omega)
  have e2 : i + (j - i - 1) + 1 = j := by omega
  simp only [e2] at h
  rw [e] at h
  exact List.lt_irrefl _ h

theorem look_none {xs : List GObj} {k : ByteArray} : look xs k = none ↔ ∀ i (h : i < xs.length), xs[i].key ≠ k := by
  unfold look
  rw [List.find?_eq_none]
  constructor
  · intro h i hi e
    exact h xs[i] (List.getElem_mem hi) (by simpa using e)
  · intro h o ho
    obtain ⟨i, hi, rfl⟩ := List.mem_iff_getElem.1 ho
    simpa using h i hi

theorem look_some {xs : List GObj} {k : ByteArray} {i : Nat} (hi : i < xs.length) (he : xs[i].key = k) (hn : ∀ j (h : j < xs.length), j < i → xs[j].key ≠ k) : look xs k = some xs[i] := by
  unfold look
  rw [List.find?_eq_some_iff_getElem]
  exact ⟨by simpa using he, i, hi, rfl, fun j hj => by simpa using hn j (by omega) hj⟩

theorem tell_none {xs : List GObj} {k : ByteArray} : ∀ n, n ≤ xs.length → (∀ i (h : i < xs.length), i < n → xs[i].key ≠ k) → tell xs n k = none
  | 0, _, _ => rfl
  | n + 1, hn, h => by
    rw [tell_succ xs n (by omega)]
    have := h n (by omega) (by omega)
    simp only [Ne.symm this, if_false]
    exact tell_none n (by omega) (fun i hi hin => h i hi (by omega))

theorem tell_some {xs : List GObj} {k : ByteArray} {i : Nat} (hi : i < xs.length) (he : xs[i].key = k) : ∀ n, i < n → n ≤ xs.length → (∀ j (h : j < xs.length), i < j → xs[j].key ≠ k) → tell xs n k = some xs[i]
  | 0, h, _, _ => by omega
  | n + 1, hin, hn, h => by
    rw [tell_succ xs n (by omega)]
    by_cases e : n = i
    · subst e
      simp [he]
    · have := h n (by omega) (by omega)
      simp only [Ne.symm this, if_false]
      exact tell_some hi he n (by omega) (by omega) h

theorem tell_look {xs : List GObj} {next : Int} (hs : StoreP xs next) (k : ByteArray) : tell xs xs.length k = look xs k := by
  by_cases h : ∃ i, ∃ hi : i < xs.length, xs[i].key = k
  · obtain ⟨i, hi, he⟩ := h
    rw [tell_some hi he xs.length hi (Nat.le_refl _) (fun j hj hij e => key_ne hs hj hij (he.trans e.symm)), look_some hi he (fun j hj hij e => key_ne hs hi hij (e.trans he.symm))]
  · have h' : ∀ i (hi : i < xs.length), xs[i].key ≠ k := fun i hi e => h ⟨i, hi, e⟩
    rw [tell_none xs.length (Nat.le_refl _) (fun i hi _ => h' i hi), look_none.2 h']

/-- where a key is found first; -1 of none -/
def FindP (xs : List GObj) (key : ByteArray) (v : Int) : Prop := (∃ i : Nat, ∃ h : i < xs.length, v = (i : Int) ∧ xs[i].key = key ∧ ∀ j (hj : j < xs.length), j < i → xs[j].key ≠ key) ∨ (v = -1 ∧ ∀ i (h : i < xs.length), xs[i].key ≠ key)

theorem find_any (A : Option Addr) (c : Nat) (next : Int) (xs : List GObj) (key : ByteArray) (B : Nat) (w : World) (h : ObjsAt w B A xs) (hB : B ≤ w.heap.size) (hl : xs.length ≤ 1048576) :
    Calls Tryz.prog 123 #[.agg #[.slice A xs.length c, .int .i64 next], .string key] w fun e w' => ∃ v, FindP xs key v ∧ e = .returned (.int .i64 v) ∧ Below w.heap.size w w' := by
  have H := Lib.hid h; clear h
  go_enter Tryz.func123, Tryz.ntmps123
  go_wp2_with fail
  obtain ⟨W, hW⟩ : ∃ W, W = w.alloc (.cells #[.slice A xs.length c, .int .i64 next] 51) := ⟨_, rfl⟩
  have t1 : Two W w.heap.size (.slice A xs.length c) (.int .i64 next) := by rw [hW]; exact Two.new _ _ _ _
  have b0 : Below w.heap.size w W := by rw [hW]; exact bal (Below.refl _ _) _
  rw [← hW]
  clear hW
  obtain ⟨t10, t11⟩ := t1
  go_loop [5] (fun i => ∃ k : Nat, k ≤ xs.length ∧ i = .int .i64 k ∧ Hid (∀ j (h : j < xs.length), j < k → xs[j].key ≠ key)) (fun i => xs.length - (intOf i).toNat)
  case atStart => exact ⟨0, by omega, rfl, Lib.hid (fun j _ h => by omega)⟩
  case round =>
    obtain ⟨k, hk, rfl, Hn⟩ := hrel
    by_cases hlt : k < xs.length
    · obtain ⟨b, off, rfl, hbB, p0, p1, p2⟩ := ObjsAt.obj (Sl.below H.out b0 hB) hlt
      by_cases he : xs[k].key = key
      · have hr : FindP xs key (k : Int) := .inl ⟨k, hlt, rfl, he, Hn.out⟩
        have Hr := Lib.hid hr; clear hr
        have d : (xs[k].key.toList == key.toList) = true := by rw [he]; simp
        clear he
        go_wp2
        go_ret
        exact ⟨k, Hr.out, rfl, b0⟩
      · have hn : ∀ j (h : j < xs.length), j < k + 1 → xs[j].key ≠ key := fun j hj hjk => by
          by_cases e : j = k
          · subst e; exact he
          · exact Hn.out j hj (by omega)
        have Hn2 := Lib.hid hn; clear hn
        have d := ne_list he
        clear he
        go_wp2
        go_round
        case rel => exact ⟨k + 1, by omega, by go_num, Hn2⟩
        case measure => simp [intOf]; omega
    · have hr : FindP xs key (-1) := .inr ⟨rfl, fun i hi => Hn.out i hi (by omega)⟩
      have Hr := Lib.hid hr; clear hr
      go_wp2
      go_ret
      exact ⟨-1, Hr.out, rfl, b0⟩

theorem look_of_find {xs : List GObj} {key : ByteArray} {v : Int} (h : FindP xs key v) : (v < 0 ∧ look xs key = none) ∨ (∃ i : Nat, ∃ hi : i < xs.length, v = (i : Int) ∧ look xs key = some xs[i]) := by
  rcases h with ⟨i, hi, rfl, he, hn⟩ | ⟨rfl, hn⟩
  · exact .inr ⟨i, hi, rfl, look_some hi he hn⟩
  · exact .inl ⟨by omega, look_none.2 hn⟩

/-- data and version of an object, or of none -/
theorem specGet_any (A : Option Addr) (c : Nat) (next : Int) (xs : List GObj) (key : ByteArray) (B : Nat) (w : World) (h : ObjsAt w B A xs) (hB : B ≤ w.heap.size) (hl : xs.length ≤ 1048576) :
    Calls Tryz.prog 84 #[.agg #[.slice A xs.length c, .int .i64 next], .string key] w fun e w' => e = .returned (.tuple #[.string (orZero (look xs key)).data, .int .i64 (orZero (look xs key)).ver]) ∧ Below w.heap.size w w' := by
  have H := Lib.hid h; clear h
  go_enter Tryz.func84, Tryz.ntmps84
  go_wp2_with fail
  obtain ⟨W, hW⟩ : ∃ W, W = w.alloc (.cells #[.slice A xs.length c, .int .i64 next] 51) := ⟨_, rfl⟩
  have t1 : Two W w.heap.size (.slice A xs.length c) (.int .i64 next) := by rw [hW]; exact Two.new _ _ _ _
  have b0 : Below w.heap.size w W := by rw [hW]; exact bal (Below.refl _ _) _
  have s0 : w.heap.size < W.heap.size := by rw [hW]; simp
  rw [← hW]
  clear hW
  have T0 := Lib.hid t1; clear t1
  refine (find_any A c next xs key B W (Sl.below H.out b0 hB) (by omega) hl).mono ?_
  rintro e w1 ⟨v, hv, rfl, hb1⟩
  have b1 := bnext b0 hb1
  rcases look_of_find hv with ⟨hneg, hlk⟩ | ⟨i, hi, rfl, hlk⟩
  · have d : decide (v < 0) = true := by simpa using hneg
    have Hlk := Lib.hid hlk; clear hlk hv hneg
    go_wp2
    go_ret2
    exact ⟨by rw [Hlk.out]; rfl, b1⟩
  · have Hlk := Lib.hid hlk; clear hlk hv
    have d : decide ((i : Int) < 0) = false := by simp
    obtain ⟨t10, t11⟩ := T0.out.below hb1 s0
    obtain ⟨b, off, rfl, hbB, p0, p1, p2⟩ := ObjsAt.obj (Sl.below H.out b1 hB) hi
    have i0 : (0 : Int) ≤ (i : Int) := by omega
    have i1 : (i : Int) < (xs.length : Int) := by omega
    go_wp2_with fail
    go_quiet (fail)
    go_wp2
    go_ret2
    exact ⟨by rw [Hlk.out]; rfl, bdrewN b1 _⟩

theorem FaultP.one {xs : List GObj} {next : Int} {key : ByteArray} {ts : List ByteArray} {a b : Int} (h : FaultP xs next key ts a) (h' : FaultP xs next key ts b) : b = a := by
  rcases h with ⟨a1, rfl⟩ | ⟨a1, a2, rfl⟩ | ⟨a1, a2, a3, rfl⟩ | ⟨a1, a2, a3, rfl⟩ <;>
    rcases h' with ⟨b1, rfl⟩ | ⟨b1, b2, rfl⟩ | ⟨b1, b2, b3, rfl⟩ | ⟨b1, b2, b3, rfl⟩ <;>
    first | rfl | (exfalso; first | exact a1 b1 | exact b1 a1 | exact a2 b2 | exact b2 a2 | exact a3 b3 | exact b3 a3)

theorem FaultP.zero {xs : List GObj} {next : Int} {key : ByteArray} {ts : List ByteArray} (h : FaultP xs next key ts 0) : StoreP xs next ∧ KeyP key := by
  rcases h with ⟨_, h⟩ | ⟨_, _, h⟩ | ⟨_, _, _, h⟩ | ⟨_, a2, a3, _⟩
  · cases h
  · cases h
  · cases h
  · exact ⟨a2, a3⟩

/-- what GetObject answers -/
def GetR (xs : List GObj) (next : Int) (key : ByteArray) (d : ByteArray) (v code : Int) : Prop :=
  (FaultP xs next key [] code ∧ code ≠ 0 ∧ d = ⟨#[]⟩ ∧ v = 0) ∨ (FaultP xs next key [] 0 ∧ look xs key = none ∧ d = ⟨#[]⟩ ∧ v = 0 ∧ code = 5) ∨ (∃ o, FaultP xs next key [] 0 ∧ look xs key = some o ∧ d = o.data ∧ v = o.ver ∧ code = 0)

theorem GetR.one {xs : List GObj} {next : Int} {key d d' : ByteArray} {v v' code code' : Int} (h : GetR xs next key d v code) (h' : GetR xs next key d' v' code') : d' = d ∧ v' = v ∧ code' = code := by
  rcases h with ⟨f, n, rfl, rfl⟩ | ⟨f, l, rfl, rfl, rfl⟩ | ⟨o, f, l, rfl, rfl, rfl⟩
  · rcases h' with ⟨f', n', rfl, rfl⟩ | ⟨f', l', rfl, rfl, rfl⟩ | ⟨o', f', l', rfl, rfl, rfl⟩
    · exact ⟨rfl, rfl, f.one f'⟩
    · exact absurd (f.one f').symm n
    · exact absurd (f.one f').symm n
  · rcases h' with ⟨f', n', rfl, rfl⟩ | ⟨f', l', rfl, rfl, rfl⟩ | ⟨o', f', l', rfl, rfl, rfl⟩
    · exact absurd (f'.one f).symm n'
    · exact ⟨rfl, rfl, rfl⟩
    · rw [l] at l'; cases l'
  · rcases h' with ⟨f', n', rfl, rfl⟩ | ⟨f', l', rfl, rfl, rfl⟩ | ⟨o', f', l', rfl, rfl, rfl⟩
    · exact absurd (f'.one f).symm n'
    · rw [l] at l'; cases l'
    · rw [l] at l'; injection l' with l'; subst l'; exact ⟨rfl, rfl, rfl⟩

/-- a text, a version and a code are answered; nothing old has turned -/
def IsGet (R : ByteArray → Int → Int → Prop) (w : World) (e : Ending) (w' : World) : Prop := ∃ d v code, R d v code ∧ e = .returned (.tuple #[.string d, .int .i64 v, .int .i64 code]) ∧ Below w.heap.size w w'

end Go.Proofs.YthmpmagajbmpaaaGreatDoor
