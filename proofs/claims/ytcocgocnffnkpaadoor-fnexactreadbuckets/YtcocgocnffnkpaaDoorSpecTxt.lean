/-
  Contracts of the model's l00Join over any slice of texts, l02Join (numbers with commas between), l02Text and AggText. Conditions: none beside lengths.
-/
import Derived.Test.YtcocgocnffnkpaaDoorNumTxt
import Derived.Test.YtcocgocnffnkpaaDoorAppG
namespace Go.Proofs.YtcocgocnffnkpaaDoor
open Go.ChangeShapes Go.WideShapes Go.ChangeAt Go.RowKit
set_option linter.unusedVariables false

set_option maxRecDepth 100000 in
theorem joinNone_any (A : Option Addr) (c : Nat) (sep : ByteArray) (w : World) : Calls Tryd.prog 79 #[.slice A 0 c, .string sep] w fun e w' => e = .returned (.string (joinT [] sep)) ∧ Below w.heap.size w w' := by
  have ez := Lib.hid (joinT_nil sep)
  go_enter Tryd.func79, Tryd.ntmps79
  go_wp2_with fail
  go_loopw [5, 6] (fun t i wr => i = .int .i64 0 ∧ t = .string ⟨#[]⟩ ∧ wr = w) (fun _ i _ => 0)
  case atStart => exact ⟨rfl, rfl, rfl⟩
  case round =>
    obtain ⟨rfl, rfl, rfl⟩ := hrel
    go_wp2
    go_ret
    exact ⟨by rw [ez.out]; rfl, Below.refl _ _⟩

theorem joinA_any (A : Option Addr) (c : Nat) (xs : List ByteArray) (sep : ByteArray) (B : Nat) (w : World) (h : TxtAt w B A xs) (hB : B ≤ w.heap.size) (hl : xs.length ≤ 1048576) (hz : (joinT xs sep).size ≤ 4611686018427387904) :
    Calls Tryd.prog 79 #[.slice A xs.length c, .string sep] w fun e w' => e = .returned (.string (joinT xs sep)) ∧ Below w.heap.size w w' := by
  by_cases hx : xs = []
  · subst hx
    exact joinNone_any A c sep w
  · obtain ⟨b, o, rfl, hb, _⟩ := TxtAt.at_ h (k := 0) (by cases xs <;> simp_all)
    exact join_any b o c xs sep w (fun j hj => TxtAt.cells h j _ (List.getElem?_eq_getElem hj)) (by omega) (by omega) hz

theorem txV_one (s : ByteArray) : ∀ u ∈ txV s, u.oneCell' = true := by
  intro u hu
  simp [txV] at hu
  subst hu; rfl

theorem new_txt (w : World) (s : ByteArray) (e : TypeId) : Sl txV 1 (w.alloc (.cells #[.string s] e)) (w.heap.size + 1) (some ⟨w.heap.size, 0, none⟩) [s] := by
  intro _
  refine ⟨w.heap.size, 0, rfl, by omega, fun k hk j v hv => ?_⟩
  obtain rfl : k = 0 := by simpa using hk
  rw [World.cell?_alloc_new]
  match j, hv with
  | 0, hv => simpa [txV] using hv
  | j + 1, hv => simp [txV] at hv

set_option maxRecDepth 100000 in
theorem l02Join_any (b o c : Nat) (ns : List Int) (w : World) (hc : ∀ (j : Nat) (h : j < ns.length), w.cell? ⟨b, o + j, none⟩ = some (.int .i64 ns[j])) (hb : b < w.heap.size) (hl : ns.length ≤ 1000) (hf : ∀ n ∈ ns, I64 n) :
    Calls Tryd.prog 73 #[.slice (some ⟨b, o, none⟩) ns.length c] w fun e w' => e = .returned (.string (joinT (ns.map numT) comma)) ∧ Below w.heap.size w w' := by
  have Hc := Lib.hid hc; clear hc
  have Hf := Lib.hid hf; clear hf
  go_enter Tryd.func73, Tryd.ntmps73
  go_wp2_with fail
  have o0 : OwnSl txV 1 9 w.heap.size (w.alloc (.cells #[] 9)) (.slice (some ⟨w.heap.size, 0, none⟩) 0 0) [] := own_empty _ _ _ w
  have hbw : Below w.heap.size w (w.alloc (.cells #[] 9)) := bal (Below.refl _ _) _
  generalize w.alloc (.cells #[] 9) = w0 at o0 hbw ⊢
  have O0 := Lib.hid o0; clear o0
  go_loopw [3, 4] (fun s i wr => ∃ (j : Nat) (A : Option Addr) (c : Nat), j ≤ ns.length ∧ i = .int .i64 j ∧ s = .slice A j c ∧ Hid (OwnSl txV 1 9 w.heap.size wr (.slice A j c) ((ns.take j).map numT)) ∧ Below w.heap.size w wr) (fun _ i _ => ns.length - (intOf i).toNat)
  case atStart => exact ⟨0, _, _, by omega, rfl, rfl, O0, hbw⟩
  case round =>
    clear O0 hbw
    obtain ⟨j, A, c2, hj, rfl, rfl, HO, hb1⟩ := hrel
    by_cases hlt : j < ns.length
    · have p0 : wr.cell? ⟨b, o + j, none⟩ = some (.int .i64 ns[j]) := (hb1.cell (p := ⟨b, o + j, none⟩) hb).trans (Hc.out j hlt)
      have HI := Lib.hid (Hf.out _ (List.getElem_mem hlt))
      go_wp2_with fail
      refine (digits_int ns[j] wr HI.out.1 HI.out.2).mono ?_
      rintro e w1 ⟨rfl, hb2⟩
      have hlx : ((ns.take j).map numT).length = j := by simp; omega
      have hO4 := (HO.out.below hb2).below (bal (Below.refl _ w1) (.cells #[.string (numT ns[j])] 9))
      have en : (ns.take (j + 1)).map numT = (ns.take j).map numT ++ [numT ns[j]] := by rw [List.take_succ_eq_append_getElem hlt, List.map_append]; rfl
      have EN := Lib.hid en; clear en
      generalize numT ns[j] = T at *
      obtain ⟨xs, hxs⟩ : ∃ xs, xs = (ns.take j).map numT := ⟨_, rfl⟩
      rw [← hxs] at hlx hO4 EN
      have HO4 := Lib.hid hO4; clear hO4 hxs
      have HN := Lib.hid (new_txt w1 T 9)
      have sz : w.heap.size ≤ w1.heap.size := Nat.le_trans hb1.size hb2.size
      have hb4 : Below w.heap.size w (w1.alloc (.cells #[.string T] 9)) := bal (bnext hb1 hb2) _
      have Hb4 := Lib.hid hb4; clear hb4 hb2 p0 HO
      subst hlx
      go_wp2_with (at_builtin; refine wpList_append_sl txV 1 16 (fun _ => rfl) txV_one 106 9 _ infoStr rfl (by omega) Tryd.underlying106 rfl _ _ rfl w.heap.size xs [T] (.slice A xs.length c2) rfl HO4.out (some ⟨w1.heap.size, 0, none⟩) 1 (w1.heap.size + 1) rfl HN.out (by simp [maxLen]; omega) (by simp; omega) (by simp; omega) ?_; intro v' w5 hO5 hg5 _; obtain ⟨A5, c5, rfl⟩ := hO5.form; have HO5 := Lib.hid hO5; clear hO5; have Hg5 := Lib.hid hg5; clear hg5)
      have hb5 : Below w.heap.size w w5 := Hb4.out.trans (below_of_grown Hg5.out (by simp; omega) (fun g e => (World.ownsRow.lt HO4.out g e).1))
      have hO6 : OwnSl txV 1 9 w.heap.size w5 (.slice A5 (xs.length + 1) c5) ((ns.take (xs.length + 1)).map numT) := by
        rw [EN.out]; simpa using HO5.out
      have HO6 := Lib.hid hO6; clear hO6
      go_roundw
      case rel => exact ⟨xs.length + 1, A5, c5, by omega, by go_num, by simp, HO6, hb5⟩
      case measure => simp [intOf]; omega
    · obtain rfl : j = ns.length := by omega
      have hO := HO.out
      rw [List.take_length] at hO
      have hl2 : ns.length = (ns.map numT).length := by simp
      rw [hl2] at hO
      obtain ⟨hsl, _, _, _⟩ := OwnSl.sl hO (fun x => rfl)
      have hz : (joinT (ns.map numT) comma).size ≤ 4611686018427387904 := by
        have := joinT_size comma 21 (ns.map numT) (fun x hx => by
          obtain ⟨n, hn, rfl⟩ := List.mem_map.1 hx
          exact numT_le (Hf.out n hn).1 (Hf.out n hn).2)
        rw [List.length_map, comma_size] at this
        omega
      have hjn := joinA_any A c2 (ns.map numT) comma _ wr hsl (Nat.le_refl _) (by simp; omega) hz
      rw [← hl2] at hjn
      obtain ⟨J, hJ⟩ : ∃ J, J = joinT (ns.map numT) comma := ⟨_, rfl⟩
      rw [← hJ] at hjn
      have HJ := Lib.hid hJ; clear hJ
      have Hj := Lib.hid hjn; clear hjn hz hsl hO HO hl2
      go_wp2_with fail
      refine Hj.out.mono ?_
      rintro e w1 ⟨rfl, hb2⟩
      go_wp2
      go_ret
      exact ⟨by rw [← HJ.out]; rfl, bnext hb1 hb2⟩

set_option maxRecDepth 100000 in
theorem l02Text_any (a : GAgg) (ha : a.fit) (w : World) : Calls Tryd.prog 41 #[.agg #[.int .i64 a.cnt, .int .i64 a.sum, .int .i64 a.mn, .int .i64 a.mx, .int .i64 a.fst, .int .i64 a.lst]] w fun e w' => e = .returned (.string (joinT (a.nums.map numT) comma)) ∧ Below w.heap.size w w' := by
  obtain ⟨J, hJ⟩ : ∃ J, J = joinT (a.nums.map numT) comma := ⟨_, rfl⟩
  have key : ∀ (w : World) (n : Nat), n = w.heap.size → Calls Tryd.prog 73 #[.slice (some ⟨n, 0, none⟩) 6 6] (w.alloc (.cells #[.int .i64 a.cnt, .int .i64 a.sum, .int .i64 a.mn, .int .i64 a.mx, .int .i64 a.fst, .int .i64 a.lst] 3)) fun e w' => e = .returned (.string J) ∧ Below w.heap.size w w' := fun w n hn => by
    rw [hJ, hn]
    exact (l02Join_any w.heap.size 0 6 a.nums (w.alloc (.cells #[.int .i64 a.cnt, .int .i64 a.sum, .int .i64 a.mn, .int .i64 a.mx, .int .i64 a.fst, .int .i64 a.lst] 3)) (fun j h => nums_at w a _ j h) (by simp) (by simp [GAgg.nums]) (fit_nums ha)).mono fun e w' ⟨he, hb⟩ => ⟨he, (bal (Below.refl _ _) _).trans (hb.mono (by simp))⟩
  rw [← hJ]
  clear hJ ha
  have Hk := Lib.hid key; clear key
  go_enter Tryd.func41, Tryd.ntmps41
  go_wp2_with fail
  refine (Hk.out (w.alloc _) _ (by simp)).mono ?_
  rintro e w2 ⟨rfl, hb2⟩
  go_wp2
  go_ret
  exact ⟨rfl, (bal (Below.refl _ _) _).trans (hb2.mono (by simp))⟩

theorem specAggText_any (a : GAgg) (ha : a.fit) (w : World) : Calls Tryd.prog 13 #[.agg #[.int .i64 a.cnt, .int .i64 a.sum, .int .i64 a.mn, .int .i64 a.mx, .int .i64 a.fst, .int .i64 a.lst]] w fun e w' => ∃ s cd, e = .returned (.tuple #[.string s, .int .i64 cd]) ∧ TextOf a s cd ∧ Below w.heap.size w w' := by
  by_cases hp : AggP a
  · have Hp := Lib.hid hp; clear hp
    have Ha := Lib.hid ha; clear ha
    go_enter Tryd.func13, Tryd.ntmps13
    go_wp2_with fail
    refine (specAggOK_b a true (by simp [Hp.out]) _).mono ?_
    rintro e w1 ⟨rfl, hb1⟩
    have b1 : Below w.heap.size w w1 := (bal (Below.refl _ _) _).trans (hb1.mono (by simp))
    have q0 : w1.cell? ⟨w.heap.size, 0, none⟩ = some (.int .i64 a.cnt) := (hb1.cell (by simp)).trans (by simp)
    have q1 : w1.cell? ⟨w.heap.size, 1, none⟩ = some (.int .i64 a.sum) := (hb1.cell (by simp)).trans (by simp)
    have q2 : w1.cell? ⟨w.heap.size, 2, none⟩ = some (.int .i64 a.mn) := (hb1.cell (by simp)).trans (by simp)
    have q3 : w1.cell? ⟨w.heap.size, 3, none⟩ = some (.int .i64 a.mx) := (hb1.cell (by simp)).trans (by simp)
    have q4 : w1.cell? ⟨w.heap.size, 4, none⟩ = some (.int .i64 a.fst) := (hb1.cell (by simp)).trans (by simp)
    have q5 : w1.cell? ⟨w.heap.size, 5, none⟩ = some (.int .i64 a.lst) := (hb1.cell (by simp)).trans (by simp)
    clear hb1
    go_wp2_with fail
    refine (l02Text_any a Ha.out _).mono ?_
    rintro e w2 ⟨rfl, hb2⟩
    obtain ⟨J, hJ⟩ : ∃ J, J = joinT (a.nums.map numT) comma := ⟨_, rfl⟩
    rw [← hJ]
    have HJ := Lib.hid hJ; clear hJ q0 q1 q2 q3 q4 q5
    go_wp2
    refine bodyPost_ret (v := .tuple #[.string J, .int .i64 0]) (by simp [results, Tryd.results13, go_sem]) rfl ⟨J, 0, rfl, Or.inl ⟨Hp.out, HJ.out, rfl⟩, bnext b1 hb2⟩
  · have Hp := Lib.hid hp; clear hp
    go_enter Tryd.func13, Tryd.ntmps13
    go_wp2_with fail
    refine (specAggOK_b a false (by simp [Hp.out]) _).mono ?_
    rintro e w1 ⟨rfl, hb1⟩
    have b1 : Below w.heap.size w w1 := (bal (Below.refl _ _) _).trans (hb1.mono (by simp))
    clear hb1
    go_wp2
    refine bodyPost_ret (v := .tuple #[.string ⟨#[]⟩, .int .i64 1]) (by simp [results, Tryd.results13, go_sem]) rfl ⟨⟨#[]⟩, 1, rfl, Or.inr ⟨Hp.out, rfl, rfl⟩, b1⟩

end Go.Proofs.YtcocgocnffnkpaaDoor
