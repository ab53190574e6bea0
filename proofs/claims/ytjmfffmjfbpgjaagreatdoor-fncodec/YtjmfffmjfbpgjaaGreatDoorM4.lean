/-
  Several texts as one: contracts that the law leans on; each part says what it proves and its conditions.
-/
import Derived.Test.YtjmfffmjfbpgjaaGreatDoorSrc
import Derived.Test.YtjmfffmjfbpgjaaGreatDoorNumTxt
import Derived.Test.YtjmfffmjfbpgjaaGreatDoorAppG
import Derived.Test.YtjmfffmjfbpgjaaGreatDoorSamTxt
import Derived.Test.YtjmfffmjfbpgjaaGreatDoorBktTxt
import Derived.Test.YtjmfffmjfbpgjaaGreatDoorM1
import Derived.Test.YtjmfffmjfbpgjaaGreatDoorM3
import Derived.Test.YtjmfffmjfbpgjaaGreatDoorSrcSam
import Derived.Test.YtjmfffmjfbpgjaaGreatDoorOpenSl
import Derived.Test.YtjmfffmjfbpgjaaGreatDoorTxt
import Derived.ChangeVars
import Derived.SevenTiedAt
import Derived.LaidOnce
import Derived.Lib.LaidTab
import Derived.Test.YtjmfffmjfbpgjaaGreatDoorTie
import Derived.WalkSmall
import Derived.Test.YtjmfffmjfbpgjaaGreatDoorImplRd
import Derived.Deep.DeepLaidRun
import Derived.LaidLaws
import Derived.ShapedOpen

/- Contract of the laws' own choice 'at': one of 0 to n - 1, whatever the bytes. Conditions: small numbers. -/
namespace Go.Proofs.YtjmfffmjfbpgjaaGreatDoor
open Go.ChangeShapes Go.WideShapes Go.ChangeAt Go.RowKit
set_option linter.unusedVariables false

set_option maxRecDepth 100000 in
theorem at_any (A : Option Addr) (bs : List Int) (c : Nat) (i n : Int) (B : Nat) (w : World) (h : BytesAt w B A bs) (hx : ∀ x ∈ bs, 0 ≤ x ∧ x ≤ 255) (hl : bs.length ≤ 1048576) (hi : 0 ≤ i) (hi2 : i ≤ 1000) (hn : 1 ≤ n) (hn2 : n ≤ 1000000) :
    Calls Tryz.prog 9 #[.slice A bs.length c, .int .i64 i, .int .i64 n] w fun e w' => ∃ r : Int, e = .returned (.int .i64 r) ∧ 0 ≤ r ∧ r < n ∧ Below w.heap.size w w' := by
  by_cases h1 : n ≤ 1
  · have d1 : decide (n ≤ 1) = true := by simpa using h1
    go_enter Tryz.func9, Tryz.ntmps9
    go_wp2
    go_ret
    exact ⟨0, rfl, by omega, by omega, Below.refl _ _⟩
  · have d1 : decide (n ≤ 1) = false := by simpa using h1
    have d3 : (n == 0) = false := by simp; omega
    by_cases h2 : bs.length = 0
    · have d2 : ((bs.length : Int) == 0) = true := by rw [h2]; rfl
      clear h hx h2
      go_enter Tryz.func9, Tryz.ntmps9
      go_wp2
      go_ret
      refine ⟨_, rfl, ?_, ?_, Below.refl _ _⟩
      · exact Int.emod_nonneg _ (by omega)
      · exact Int.emod_lt_of_pos _ (by omega)
    · have d2 : ((bs.length : Int) == 0) = false := by simp only [beq_eq_false_iff_ne, ne_eq]; omega
      obtain ⟨k1, hk1, hk1l⟩ : ∃ k : Nat, i % (bs.length : Int) = (k : Int) ∧ k < bs.length := ⟨(i % (bs.length : Int)).toNat, by have := Int.emod_nonneg i (b := (bs.length : Int)) (by omega); omega, by have := Int.emod_lt_of_pos i (b := (bs.length : Int)) (by omega); have := Int.emod_nonneg i (b := (bs.length : Int)) (by omega); omega⟩
      obtain ⟨k2, hk2, hk2l⟩ : ∃ k : Nat, (i + 1) % (bs.length : Int) = (k : Int) ∧ k < bs.length := ⟨((i + 1) % (bs.length : Int)).toNat, by have := Int.emod_nonneg (i + 1) (b := (bs.length : Int)) (by omega); omega, by have := Int.emod_lt_of_pos (i + 1) (b := (bs.length : Int)) (by omega); have := Int.emod_nonneg (i + 1) (b := (bs.length : Int)) (by omega); omega⟩
      obtain ⟨b1, o1, rfl, hb1, p0⟩ := h.byte hk1l
      obtain ⟨b2, o2, e, hb2, q0⟩ := h.byte hk2l
      injection e with e
      injection e with e1 e2
      subst e1 e2
      have x1 := hx bs[k1] (List.getElem_mem hk1l)
      have x2 := hx bs[k2] (List.getElem_mem hk2l)
      have t1 : i.tmod (bs.length : Int) = (k1 : Int) := by rw [Int.tmod_eq_emod_of_nonneg hi]; exact hk1
      have t2 : (i + 1).tmod (bs.length : Int) = (k2 : Int) := by rw [Int.tmod_eq_emod_of_nonneg (by omega)]; exact hk2
      have qd : 0 ≤ i.tdiv (bs.length : Int) ∧ i.tdiv (bs.length : Int) ≤ 1000 := by
        rw [Int.tdiv_eq_ediv_of_nonneg hi]
        exact ⟨Int.ediv_nonneg hi (by omega), Int.le_trans (Int.ediv_le_self _ hi) hi2⟩
      have i1 : (0 : Int) ≤ (k1 : Int) := by omega
      have i2 : (k1 : Int) < (bs.length : Int) := by omega
      have i3 : (0 : Int) ≤ (k2 : Int) := by omega
      have i4 : (k2 : Int) < (bs.length : Int) := by omega
      have w1 : IntKind.i64.wrap (i + 1) = i + 1 := by rw [IntKind.wrap_i64]; omega
      have w1' : wrap64 (i + 1) = i + 1 := by unfold wrap64; omega
      clear h hx h2
      go_enter Tryz.func9, Tryz.ntmps9
      go_wp2_with fail
      go_quiet (fail)
      go_wp2
      go_ret
      exact ⟨(bs[k1] * 31 + bs[k2] + i.tdiv (bs.length : Int)) % n, rfl, Int.emod_nonneg _ (by omega), Int.emod_lt_of_pos _ (by omega), bdrewN (Below.refl _ _) _⟩

end Go.Proofs.YtjmfffmjfbpgjaaGreatDoor

/- Contracts of the model's l00Join over any slice of texts, l02Join (numbers with commas between), l02Text and AggText. Conditions: none beside lengths. -/
namespace Go.Proofs.YtjmfffmjfbpgjaaGreatDoor
open Go.ChangeShapes Go.WideShapes Go.ChangeAt Go.RowKit
set_option linter.unusedVariables false

set_option maxRecDepth 100000 in
theorem joinNone_any (A : Option Addr) (c : Nat) (sep : ByteArray) (w : World) : Calls Tryz.prog 118 #[.slice A 0 c, .string sep] w fun e w' => e = .returned (.string (joinT [] sep)) ∧ Below w.heap.size w w' := by
  have ez := Lib.hid (joinT_nil sep)
  go_enter Tryz.func118, Tryz.ntmps118
  go_wp2_with fail
  go_loopw [5, 6] (fun t i wr => i = .int .i64 0 ∧ t = .string ⟨#[]⟩ ∧ wr = w) (fun _ i _ => 0)
  case atStart => exact ⟨rfl, rfl, rfl⟩
  case round =>
    obtain ⟨rfl, rfl, rfl⟩ := hrel
    go_wp2
    go_ret
    exact ⟨by rw [ez.out]; rfl, Below.refl _ _⟩

theorem joinA_any (A : Option Addr) (c : Nat) (xs : List ByteArray) (sep : ByteArray) (B : Nat) (w : World) (h : TxtAt w B A xs) (hB : B ≤ w.heap.size) (hl : xs.length ≤ 1048576) (hz : (joinT xs sep).size ≤ 4611686018427387904) :
    Calls Tryz.prog 118 #[.slice A xs.length c, .string sep] w fun e w' => e = .returned (.string (joinT xs sep)) ∧ Below w.heap.size w w' := by
  by_cases hx : xs = []
  · subst hx
    exact joinNone_any A c sep w
  · obtain ⟨b, o, rfl, hb, _⟩ := TxtAt.at_ h (k := 0) (by cases xs <;> simp_all)
    exact join_any b o c xs sep w (fun j hj => TxtAt.cells h j _ (List.getElem?_eq_getElem hj)) (by omega) (by omega) hz

theorem txV_one (s : ByteArray) : ∀ u ∈ txV s, u.oneCell' = true := by
  intro u hu
  simp [txV] at hu
  subst hu; rfl

theorem new_txt (w : World) (s : ByteArray) (e : TypeId) : Sl txV 1 (w.alloc (.cells #[.string s] e)) (w.heap.size + 1) (some ⟨w.heap.size, 0, none⟩) [s] := by
  intro _
  refine ⟨w.heap.size, 0, rfl, by omega, fun k hk j v hv => ?_⟩
  obtain rfl : k = 0 := by simpa using hk
  rw [World.cell?_alloc_new]
  match j, hv with
  | 0, hv => simpa [txV] using hv
  | j + 1, hv => simp [txV] at hv

set_option maxRecDepth 100000 in
theorem l02Join_any (b o c : Nat) (ns : List Int) (w : World) (hc : ∀ (j : Nat) (h : j < ns.length), w.cell? ⟨b, o + j, none⟩ = some (.int .i64 ns[j])) (hb : b < w.heap.size) (hl : ns.length ≤ 1000) (hf : ∀ n ∈ ns, I64 n) :
    Calls Tryz.prog 173 #[.slice (some ⟨b, o, none⟩) ns.length c] w fun e w' => e = .returned (.string (joinT (ns.map numT) comma)) ∧ Below w.heap.size w w' := by
  have Hc := Lib.hid hc; clear hc
  have Hf := Lib.hid hf; clear hf
  go_enter Tryz.func173, Tryz.ntmps173
  go_wp2_with fail
  have o0 : OwnSl txV 1 9 w.heap.size (w.alloc (.cells #[] 9)) (.slice (some ⟨w.heap.size, 0, none⟩) 0 0) [] := own_empty _ _ _ w
  have hbw : Below w.heap.size w (w.alloc (.cells #[] 9)) := bal (Below.refl _ _) _
  generalize w.alloc (.cells #[] 9) = w0 at o0 hbw ⊢
  have O0 := Lib.hid o0; clear o0
  go_loopw [3, 4] (fun s i wr => ∃ (j : Nat) (A : Option Addr) (c : Nat), j ≤ ns.length ∧ i = .int .i64 j ∧ s = .slice A j c ∧ Hid (OwnSl txV 1 9 w.heap.size wr (.slice A j c) ((ns.take j).map numT)) ∧ Below w.heap.size w wr) (fun _ i _ => ns.length - (intOf i).toNat)
  case atStart => exact ⟨0, _, _, by omega, rfl, rfl, O0, hbw⟩
  case round =>
    clear O0 hbw
    obtain ⟨j, A, c2, hj, rfl, rfl, HO, hb1⟩ := hrel
    by_cases hlt : j < ns.length
    · have p0 : wr.cell? ⟨b, o + j, none⟩ = some (.int .i64 ns[j]) := (hb1.cell (p := ⟨b, o + j, none⟩) hb).trans (Hc.out j hlt)
      have HI := Lib.hid (Hf.out _ (List.getElem_mem hlt))
      go_wp2_with fail
      refine (digits_int ns[j] wr HI.out.1 HI.out.2).mono ?_
      rintro e w1 ⟨rfl, hb2⟩
      have hlx : ((ns.take j).map numT).length = j := by simp; omega
      have hO4 := (HO.out.below hb2).below (bal (Below.refl _ w1) (.cells #[.string (numT ns[j])] 9))
      have en : (ns.take (j + 1)).map numT = (ns.take j).map numT ++ [numT ns[j]] := by rw [List.take_succ_eq_append_getElem hlt, List.map_append]; rfl
      have EN := Lib.hid en; clear en
      generalize numT ns[j] = T at *
      obtain ⟨xs, hxs⟩ : ∃ xs, xs = (ns.take j).map numT := ⟨_, rfl⟩
      rw [← hxs] at hlx hO4 EN
      have HO4 := Lib.hid hO4; clear hO4 hxs
      have HN := Lib.hid (new_txt w1 T 9)
      have sz : w.heap.size ≤ w1.heap.size := Nat.le_trans hb1.size hb2.size
      have hb4 : Below w.heap.size w (w1.alloc (.cells #[.string T] 9)) := bal (bnext hb1 hb2) _
      have Hb4 := Lib.hid hb4; clear hb4 hb2 p0 HO
      subst hlx
      go_wp2_with (at_builtin; refine wpList_append_sl txV 1 16 (fun _ => rfl) txV_one 170 9 _ infoStr rfl (by omega) Tryz.underlying170 rfl _ _ rfl w.heap.size xs [T] (.slice A xs.length c2) rfl HO4.out (some ⟨w1.heap.size, 0, none⟩) 1 (w1.heap.size + 1) rfl HN.out (by simp [maxLen]; omega) (by simp; omega) (by simp; omega) ?_; intro v' w5 hO5 hg5 _; obtain ⟨A5, c5, rfl⟩ := hO5.form; have HO5 := Lib.hid hO5; clear hO5; have Hg5 := Lib.hid hg5; clear hg5)
      have hb5 : Below w.heap.size w w5 := Hb4.out.trans (below_of_grown Hg5.out (by simp; omega) (fun g e => (World.ownsRow.lt HO4.out g e).1))
      have hO6 : OwnSl txV 1 9 w.heap.size w5 (.slice A5 (xs.length + 1) c5) ((ns.take (xs.length + 1)).map numT) := by
        rw [EN.out]; simpa using HO5.out
      have HO6 := Lib.hid hO6; clear hO6
      go_roundw
      case rel => exact ⟨xs.length + 1, A5, c5, by omega, by go_num, by simp, HO6, hb5⟩
      case measure => simp [intOf]; omega
    · obtain rfl : j = ns.length := by omega
      have hO := HO.out
      rw [List.take_length] at hO
      have hl2 : ns.length = (ns.map numT).length := by simp
      rw [hl2] at hO
      obtain ⟨hsl, _, _, _⟩ := OwnSl.sl hO (fun x => rfl)
      have hz : (joinT (ns.map numT) comma).size ≤ 4611686018427387904 := by
        have := joinT_size comma 21 (ns.map numT) (fun x hx => by
          obtain ⟨n, hn, rfl⟩ := List.mem_map.1 hx
          exact numT_le (Hf.out n hn).1 (Hf.out n hn).2)
        rw [List.length_map, comma_size] at this
        omega
      have hjn := joinA_any A c2 (ns.map numT) comma _ wr hsl (Nat.le_refl _) (by simp; omega) hz
      rw [← hl2] at hjn
      obtain ⟨J, hJ⟩ : ∃ J, J = joinT (ns.map numT) comma := ⟨_, rfl⟩
      rw [← hJ] at hjn
      have HJ := Lib.hid hJ; clear hJ
      have Hj := Lib.hid hjn; clear hjn hz hsl hO HO hl2
      go_wp2_with fail
      refine Hj.out.mono ?_
      rintro e w1 ⟨rfl, hb2⟩
      go_wp2
      go_ret
      exact ⟨by rw [← HJ.out]; rfl, bnext hb1 hb2⟩

set_option maxRecDepth 100000 in
theorem l02Text_any (a : GAgg) (ha : a.fit) (w : World) : Calls Tryz.prog 124 #[.agg #[.int .i64 a.cnt, .int .i64 a.sum, .int .i64 a.mn, .int .i64 a.mx, .int .i64 a.fst, .int .i64 a.lst]] w fun e w' => e = .returned (.string (joinT (a.nums.map numT) comma)) ∧ Below w.heap.size w w' := by
  obtain ⟨J, hJ⟩ : ∃ J, J = joinT (a.nums.map numT) comma := ⟨_, rfl⟩
  have key : ∀ (w : World) (n : Nat), n = w.heap.size → Calls Tryz.prog 173 #[.slice (some ⟨n, 0, none⟩) 6 6] (w.alloc (.cells #[.int .i64 a.cnt, .int .i64 a.sum, .int .i64 a.mn, .int .i64 a.mx, .int .i64 a.fst, .int .i64 a.lst] 3)) fun e w' => e = .returned (.string J) ∧ Below w.heap.size w w' := fun w n hn => by
    rw [hJ, hn]
    exact (l02Join_any w.heap.size 0 6 a.nums (w.alloc (.cells #[.int .i64 a.cnt, .int .i64 a.sum, .int .i64 a.mn, .int .i64 a.mx, .int .i64 a.fst, .int .i64 a.lst] 3)) (fun j h => nums_at w a _ j h) (by simp) (by simp [GAgg.nums]) (fit_nums ha)).mono fun e w' ⟨he, hb⟩ => ⟨he, (bal (Below.refl _ _) _).trans (hb.mono (by simp))⟩
  rw [← hJ]
  clear hJ ha
  have Hk := Lib.hid key; clear key
  go_enter Tryz.func124, Tryz.ntmps124
  go_wp2_with fail
  refine (Hk.out (w.alloc _) _ (by simp)).mono ?_
  rintro e w2 ⟨rfl, hb2⟩
  go_wp2
  go_ret
  exact ⟨rfl, (bal (Below.refl _ _) _).trans (hb2.mono (by simp))⟩

end Go.Proofs.YtjmfffmjfbpgjaaGreatDoor

/- Contracts of the model's l03Samples and SamplesText. Conditions: none beside lengths. -/
namespace Go.Proofs.YtjmfffmjfbpgjaaGreatDoor
open Go.ChangeShapes Go.WideShapes Go.ChangeAt Go.RowKit
set_option linter.unusedVariables false
set_option linter.unusedSimpArgs false

set_option maxRecDepth 100000 in
set_option maxHeartbeats 1000000 in
theorem l03Samples_any (A : Option Addr) (c : Nat) (xs : List GSam) (B : Nat) (w : World) (h : SamsAt w B A xs) (hB : B ≤ w.heap.size) (hl : xs.length ≤ 1000) (hf : ∀ x ∈ xs, GSam.fit x) :
    Calls Tryz.prog 50 #[.slice A xs.length c] w fun e w' => e = .returned (.string (joinT (xs.map samT) blank)) ∧ Below w.heap.size w w' := by
  have H := Lib.hid h; clear h
  have Hf := Lib.hid hf; clear hf
  go_enter Tryz.func50, Tryz.ntmps50
  go_wp2_with fail
  have o0 : OwnSl txV 1 9 w.heap.size (w.alloc (.cells #[] 9)) (.slice (some ⟨w.heap.size, 0, none⟩) 0 0) [] := own_empty _ _ _ w
  have hbw : Below w.heap.size w (w.alloc (.cells #[] 9)) := bal (Below.refl _ _) _
  generalize w.alloc (.cells #[] 9) = w0 at o0 hbw ⊢
  have O0 := Lib.hid o0; clear o0
  go_loopw [3, 4] (fun s i wr => ∃ (j : Nat) (A : Option Addr) (c : Nat), j ≤ xs.length ∧ i = .int .i64 j ∧ s = .slice A j c ∧ Hid (OwnSl txV 1 9 w.heap.size wr (.slice A j c) ((xs.take j).map samT)) ∧ Below w.heap.size w wr) (fun _ i _ => xs.length - (intOf i).toNat)
  case atStart => exact ⟨0, _, _, by omega, rfl, rfl, O0, hbw⟩
  case round =>
    clear O0 hbw
    obtain ⟨j, A, c2, hj, rfl, rfl, HO, hb⟩ := hrel
    by_cases hlt : j < xs.length
    · obtain ⟨b1, o1, rfl, hb1, p0, p1⟩ := SamsAt.sam H.out hlt
      have hbB : b1 < w.heap.size := by omega
      have HI := Lib.hid (Hf.out _ (List.getElem_mem hlt))
      have en : (xs.take (j + 1)).map samT = (xs.take j).map samT ++ [samT xs[j]] := by rw [List.take_succ_eq_append_getElem hlt, List.map_append]; rfl
      have EN := Lib.hid en; clear en
      obtain ⟨ys, hys⟩ : ∃ ys, ys = (xs.take j).map samT := ⟨_, rfl⟩
      have hyl : ys.length = j := by rw [hys]; simp; omega
      have HO' := HO.out
      rw [← hys] at EN HO'
      clear HO hys
      have HOr := Lib.hid HO'; clear HO'
      have z1 := numT_le HI.out.1.1 HI.out.1.2
      have z2 := numT_le HI.out.2.1 HI.out.2.2
      have z3 : ¬ 9223372036854775807 < (numT xs[j].t).size + 1 := by omega
      have z4 : ¬ 9223372036854775807 < (numT xs[j].t).size + 1 + (numT xs[j].v).size := by omega
      have eT : numT xs[j].t ++ ⟨#[61]⟩ ++ numT xs[j].v = samT xs[j] := rfl
      have j0 : (0 : Int) ≤ (j : Int) := by omega
      have j1 : (j : Int) < (xs.length : Int) := by omega
      go_wp2_with fail
      refine wp_region_noPanic ?_
      refine wp_region_held_drew (S := (fun w' => w'.cell? ⟨b1, o1 + j * 2, none⟩ = some (.int .i64 xs[j].t) ∧ w'.cell? ⟨b1, o1 + j * 2 + 1, none⟩ = some (.int .i64 xs[j].v))) (by kernel_rfl) (⟨(hb.drew.cell hbB).trans p0, (hb.drew.cell hbB).trans p1⟩) (fun hHeld => ?_)
      refine wpAnyH_take (i := 0) (oi := { dst := some 12, op := Op.move (Operand.tmp 3), type := 170, pos := "l03_codec.go:8", after := #[], guard := none }) (v := ?vc0) rfl (by kernel_rfl) (by kernel_rfl) (by kernel_rfl) (fun _ _ _ h => h) (Or.inl ⟨by rfl, ?hyc0⟩) (by assumption) ?restc0
      case hyc0 => intro w hSw; (try dsimp only at hSw); (first | (go_simp; done) | (go_simp; with_reducible rfl) | (with_reducible rfl))
      try simp only [Act.put, List.setIfInBounds_toArray, List.set_cons_zero, List.set_cons_succ]
      refine wpAnyH_take (i := 1) (oi := { dst := some 13, op := Op.move (Operand.tmp 0), type := 23, pos := "l03_codec.go:8", after := #[], guard := none }) (v := ?vc1) rfl (by kernel_rfl) (by kernel_rfl) (by kernel_rfl) (fun _ _ _ h => h) (Or.inl ⟨by rfl, ?hyc1⟩) (by assumption) ?restc1
      case hyc1 => intro w hSw; (try dsimp only at hSw); (first | (go_simp; done) | (go_simp; with_reducible rfl) | (with_reducible rfl))
      try simp only [Act.put, List.setIfInBounds_toArray, List.set_cons_zero, List.set_cons_succ]
      refine wpAnyH_take (i := 2) (oi := { dst := some 14, op := Op.move (Operand.tmp 4), type := 3, pos := "l03_codec.go:8", after := #[], guard := none }) (v := ?vc2) rfl (by kernel_rfl) (by kernel_rfl) (by kernel_rfl) (fun _ _ _ h => h) (Or.inl ⟨by rfl, ?hyc2⟩) (by assumption) ?restc2
      case hyc2 => intro w hSw; (try dsimp only at hSw); (first | (go_simp; done) | (go_simp; with_reducible rfl) | (with_reducible rfl))
      try simp only [Act.put, List.setIfInBounds_toArray, List.set_cons_zero, List.set_cons_succ]
      refine wpAnyH_take (i := 3) (oi := { dst := some 15, op := Op.indexAddr 23 (Operand.tmp 13) (Operand.tmp 14), type := 0, pos := "l03_codec.go:8", after := #[{ on := 1, ground := Ground.data }, { on := 2, ground := Ground.data }], guard := none }) (v := ?vc3) rfl (by kernel_rfl) (by kernel_rfl) (by kernel_rfl) (fun _ _ _ h => h) (Or.inl ⟨by rfl, ?hyc3⟩) (by assumption) ?restc3
      case hyc3 => intro w hSw; (try dsimp only at hSw); (first | (go_simp; done) | (go_simp; with_reducible rfl) | (with_reducible rfl))
      try simp only [Act.put, List.setIfInBounds_toArray, List.set_cons_zero, List.set_cons_succ]
      refine wpAnyH_take (i := 4) (oi := { dst := some 16, op := Op.fieldAddr 89 (Operand.tmp 15) 0, type := 0, pos := "l03_codec.go:8", after := #[{ on := 3, ground := Ground.data }], guard := none }) (v := ?vc4) rfl (by kernel_rfl) (by kernel_rfl) (by kernel_rfl) (fun _ _ _ h => h) (Or.inl ⟨by rfl, ?hyc4⟩) (by assumption) ?restc4
      case hyc4 => intro w hSw; (try dsimp only at hSw); (first | (go_simp; done) | (go_simp; with_reducible rfl) | (with_reducible rfl))
      try simp only [Act.put, List.setIfInBounds_toArray, List.set_cons_zero, List.set_cons_succ]
      refine wpAnyH_take (i := 5) (oi := { dst := some 17, op := Op.load 3 (Operand.tmp 16), type := 3, pos := "l03_codec.go:8", after := #[{ on := 4, ground := Ground.data }], guard := none }) (v := ?vc5) rfl (by kernel_rfl) (by kernel_rfl) (by kernel_rfl) (fun _ _ _ h => h) (Or.inl ⟨by rfl, ?hyc5⟩) (by assumption) ?restc5
      case hyc5 => intro w hSw; (try dsimp only at hSw); (first | (go_simp; done) | (go_simp; with_reducible rfl) | (with_reducible rfl))
      try simp only [Act.put, List.setIfInBounds_toArray, List.set_cons_zero, List.set_cons_succ]
      refine wpAnyH_take (i := 8) (oi := { dst := some 20, op := Op.move (Operand.tmp 0), type := 23, pos := "l03_codec.go:8", after := #[], guard := none }) (v := ?vc8) rfl (by kernel_rfl) (by kernel_rfl) (by kernel_rfl) (fun _ _ _ h => h) (Or.inl ⟨by rfl, ?hyc8⟩) (by assumption) ?restc8
      case hyc8 => intro w hSw; (try dsimp only at hSw); (first | (go_simp; done) | (go_simp; with_reducible rfl) | (with_reducible rfl))
      try simp only [Act.put, List.setIfInBounds_toArray, List.set_cons_zero, List.set_cons_succ]
      refine wpAnyH_take (i := 9) (oi := { dst := some 21, op := Op.move (Operand.tmp 4), type := 3, pos := "l03_codec.go:8", after := #[], guard := none }) (v := ?vc9) rfl (by kernel_rfl) (by kernel_rfl) (by kernel_rfl) (fun _ _ _ h => h) (Or.inl ⟨by rfl, ?hyc9⟩) (by assumption) ?restc9
      case hyc9 => intro w hSw; (try dsimp only at hSw); (first | (go_simp; done) | (go_simp; with_reducible rfl) | (with_reducible rfl))
      try simp only [Act.put, List.setIfInBounds_toArray, List.set_cons_zero, List.set_cons_succ]
      refine wpAnyH_take (i := 10) (oi := { dst := some 22, op := Op.indexAddr 23 (Operand.tmp 20) (Operand.tmp 21), type := 0, pos := "l03_codec.go:8", after := #[{ on := 8, ground := Ground.data }, { on := 9, ground := Ground.data }], guard := none }) (v := ?vc10) rfl (by kernel_rfl) (by kernel_rfl) (by kernel_rfl) (fun _ _ _ h => h) (Or.inl ⟨by rfl, ?hyc10⟩) (by assumption) ?restc10
      case hyc10 => intro w hSw; (try dsimp only at hSw); (first | (go_simp; done) | (go_simp; with_reducible rfl) | (with_reducible rfl))
      try simp only [Act.put, List.setIfInBounds_toArray, List.set_cons_zero, List.set_cons_succ]
      refine wpAnyH_take (i := 11) (oi := { dst := some 23, op := Op.fieldAddr 89 (Operand.tmp 22) 1, type := 0, pos := "l03_codec.go:8", after := #[{ on := 10, ground := Ground.data }], guard := none }) (v := ?vc11) rfl (by kernel_rfl) (by kernel_rfl) (by kernel_rfl) (fun _ _ _ h => h) (Or.inl ⟨by rfl, ?hyc11⟩) (by assumption) ?restc11
      case hyc11 => intro w hSw; (try dsimp only at hSw); (first | (go_simp; done) | (go_simp; with_reducible rfl) | (with_reducible rfl))
      try simp only [Act.put, List.setIfInBounds_toArray, List.set_cons_zero, List.set_cons_succ]
      refine wpAnyH_take (i := 12) (oi := { dst := some 24, op := Op.load 3 (Operand.tmp 23), type := 3, pos := "l03_codec.go:8", after := #[{ on := 11, ground := Ground.data }], guard := none }) (v := ?vc12) rfl (by kernel_rfl) (by kernel_rfl) (by kernel_rfl) (fun _ _ _ h => h) (Or.inl ⟨by rfl, ?hyc12⟩) (by assumption) ?restc12
      case hyc12 => intro w hSw; (try dsimp only at hSw); (first | (go_simp; done) | (go_simp; with_reducible rfl) | (with_reducible rfl))
      try simp only [Act.put, List.setIfInBounds_toArray, List.set_cons_zero, List.set_cons_succ]
      refine wpAnyH_ready (rs := [6]) (by kernel_rfl) (by simp) ?_
      refine AllReadyH.cons (o := { dst := some 18, op := Op.call { callee := Callee.value (Operand.func 117), args := #[Operand.tmp 17], argTypes := #[3] }, type := 9, pos := "l03_codec.go:8", after := #[{ on := 5, ground := Ground.data }], guard := none }) rfl (fun K hK => ?_) AllReadyH.nil
      go_simp
      refine (digits_int xs[j].t wr.drew HI.out.1.1 HI.out.1.2).mono ?_
      rintro e w1 ⟨rfl, hb1'⟩
      have b1' : Below w.heap.size w w1 := bnext hb.drew hb1'
      have HO1 := Lib.hid ((HOr.out.below (Below.refl _ wr).drew).below hb1')
      go_wp2_with fail
      refine hK.out _ _ (⟨(b1'.cell hbB).trans p0, (b1'.cell hbB).trans p1⟩) (fun hHeld => ?_)
      clear hK K
      try simp only [Act.put, List.setIfInBounds_toArray, List.set_cons_zero, List.set_cons_succ]
      refine wpAnyH_take (i := 7) (oi := { dst := some 19, op := Op.binOp BinOp.add 9 (Operand.tmp 18) (Operand.const (Value.string { data := #[61] })) 9, type := 9, pos := "l03_codec.go:8", after := #[{ on := 6, ground := Ground.data }], guard := none }) (v := ?vc7) rfl (by kernel_rfl) (by kernel_rfl) (by kernel_rfl) (fun _ _ _ h => h) (Or.inl ⟨by rfl, ?hyc7⟩) (by assumption) ?restc7
      case hyc7 => intro w hSw; (try dsimp only at hSw); (first | (go_simp; done) | (go_simp; with_reducible rfl) | (with_reducible rfl))
      try simp only [Act.put, List.setIfInBounds_toArray, List.set_cons_zero, List.set_cons_succ]
      refine wpAnyH_ready (rs := [13]) (by kernel_rfl) (by simp) ?_
      refine AllReadyH.cons (o := { dst := some 25, op := Op.call { callee := Callee.value (Operand.func 117), args := #[Operand.tmp 24], argTypes := #[3] }, type := 9, pos := "l03_codec.go:8", after := #[{ on := 12, ground := Ground.data }, { on := 6, ground := Ground.chain }], guard := none }) rfl (fun K hK => ?_) AllReadyH.nil
      go_simp
      refine (digits_int xs[j].v w1 HI.out.2.1 HI.out.2.2).mono ?_
      rintro e wL ⟨rfl, hb2'⟩
      have hbL : Below w.heap.size w wL := bnext b1' hb2'
      have HOL := Lib.hid (HO1.out.below hb2')
      have hsL : w.heap.size ≤ wL.heap.size := hbL.size
      go_wp2_with fail
      refine hK.out _ _ (⟨(hbL.cell hbB).trans p0, (hbL.cell hbB).trans p1⟩) (fun hHeld => ?_)
      clear hK K
      try simp only [Act.put, List.setIfInBounds_toArray, List.set_cons_zero, List.set_cons_succ]
      refine wpAnyH_take (i := 14) (oi := { dst := some 26, op := Op.binOp BinOp.add 9 (Operand.tmp 19) (Operand.tmp 25) 9, type := 9, pos := "l03_codec.go:8", after := #[{ on := 7, ground := Ground.data }, { on := 13, ground := Ground.data }], guard := none }) (v := ?vc14) rfl (by kernel_rfl) (by kernel_rfl) (by kernel_rfl) (fun _ _ _ h => h) (Or.inl ⟨by rfl, ?hyc14⟩) (by assumption) ?restc14
      case hyc14 => intro w hSw; (try dsimp only at hSw); (first | (go_simp; done) | (go_simp; with_reducible rfl) | (with_reducible rfl))
      try simp only [Act.put, List.setIfInBounds_toArray, List.set_cons_zero, List.set_cons_succ]
      refine wpAnyH_ready (rs := [15]) (by kernel_rfl) (by simp) ?_
      refine AllReadyH.cons (o := { dst := some 27, op := Op.buildSlice 170 1 #[(0, Operand.tmp 26)], type := 170, pos := "l03_codec.go:8", after := #[{ on := 14, ground := Ground.data }], guard := none }) rfl (fun K hK => ?_) AllReadyH.nil
      go_simp
      have hb4 : Below w.heap.size w (wL.alloc (.cells #[.string (samT xs[j])] 9)) := bal hbL _
      have HN := Lib.hid (new_txt wL (samT xs[j]) 9)
      have HO4 := Lib.hid (HOL.out.below (bal (Below.refl _ wL) (.cells #[.string (samT xs[j])] 9)))
      refine hK.out _ _ (⟨(hb4.cell hbB).trans p0, (hb4.cell hbB).trans p1⟩) (fun hHeld => ?_)
      clear hK K
      try simp only [Act.put, List.setIfInBounds_toArray, List.set_cons_zero, List.set_cons_succ]
      refine wpAnyH_ready (rs := [16]) (by kernel_rfl) (by simp) ?_
      refine AllReadyH.cons (o := { dst := some 28, op := Op.call { callee := Callee.builtin Builtin.append, args := #[Operand.tmp 12, Operand.tmp 27], argTypes := #[170, 170] }, type := 170, pos := "l03_codec.go:8", after := #[{ on := 0, ground := Ground.data }, { on := 15, ground := Ground.data }, { on := 13, ground := Ground.chain }], guard := none }) rfl (fun K hK => ?_) AllReadyH.nil
      refine step_append_sl txV 1 16 (fun _ => rfl) txV_one 170 9 _ infoStr rfl (by omega) Tryz.underlying170 rfl _ _ rfl w.heap.size ys [samT xs[j]] (.slice A j c2) rfl HO4.out (some ⟨wL.heap.size, 0, none⟩) 1 (wL.heap.size + 1) rfl HN.out (by simp [maxLen]; omega) (by simp; omega) (by simp; omega) ?_
      intro v' w5 hO5 hg5
      obtain ⟨A5, c5, rfl⟩ := hO5.form
      have HO5 := Lib.hid hO5; clear hO5
      have hb5 : Below w.heap.size w w5 := hb4.trans (below_of_grown hg5 (by simp; omega) (fun g e => (World.ownsRow.lt HO4.out g e).1))
      refine hK.out _ _ (⟨(hb5.cell hbB).trans p0, (hb5.cell hbB).trans p1⟩) (fun hHeld => ?_)
      clear hK K
      try simp only [Act.put, List.setIfInBounds_toArray, List.set_cons_zero, List.set_cons_succ]
      refine wpAnyH_take (i := 17) (oi := { dst := some 3, op := Op.assign (Operand.tmp 28), type := 170, pos := "l03_codec.go:8", after := #[{ on := 16, ground := Ground.data }, { on := 16, ground := Ground.chain }, { on := 0, ground := Ground.phase }, { on := 1, ground := Ground.phase }, { on := 2, ground := Ground.phase }, { on := 3, ground := Ground.phase }, { on := 4, ground := Ground.phase }, { on := 5, ground := Ground.phase }, { on := 6, ground := Ground.phase }, { on := 7, ground := Ground.phase }, { on := 8, ground := Ground.phase }, { on := 9, ground := Ground.phase }, { on := 10, ground := Ground.phase }, { on := 11, ground := Ground.phase }, { on := 12, ground := Ground.phase }, { on := 13, ground := Ground.phase }, { on := 14, ground := Ground.phase }, { on := 15, ground := Ground.phase }, { on := 16, ground := Ground.phase }], guard := none }) (v := ?vc17) rfl (by kernel_rfl) (by kernel_rfl) (by kernel_rfl) (fun _ _ _ h => h) (Or.inl ⟨by rfl, ?hyc17⟩) (by assumption) ?restc17
      case hyc17 => intro w hSw; (try dsimp only at hSw); (first | (go_simp; done) | (go_simp; with_reducible rfl) | (with_reducible rfl))
      try simp only [Act.put, List.setIfInBounds_toArray, List.set_cons_zero, List.set_cons_succ]
      refine wpAnyH_done (by kernel_rfl) ?_ _
      refine NoPanic.normal ?_
      have hO6 : OwnSl txV 1 9 w.heap.size w5 (.slice A5 (j + 1) c5) ((xs.take (j + 1)).map samT) := by
        rw [EN.out]
        have := HO5.out
        simpa [hyl] using this
      have HO6 := Lib.hid hO6; clear hO6
      clear hHeld
      go_wp2
      go_roundw
      case rel => exact ⟨j + 1, A5, c5, by omega, by go_num, by simp [hyl], HO6, hb5⟩
      case measure => simp [intOf]; omega
    · obtain rfl : j = xs.length := by omega
      have hO := HO.out
      rw [List.take_length] at hO
      have hl2 : xs.length = (xs.map samT).length := by simp
      rw [hl2] at hO
      obtain ⟨hsl, _, _, _⟩ := OwnSl.sl hO (fun x => rfl)
      have hz : (joinT (xs.map samT) blank).size ≤ 4611686018427387904 := by
        have := joinT_size blank 1000 (xs.map samT) (fun x hx => by
          obtain ⟨n, hn, rfl⟩ := List.mem_map.1 hx
          exact Nat.le_trans (samT_size (Hf.out n hn)) (by omega))
        rw [List.length_map, blank_size] at this
        omega
      have hjn := joinA_any A c2 (xs.map samT) blank _ wr hsl (Nat.le_refl _) (by simp; omega) hz
      rw [← hl2] at hjn
      obtain ⟨J, hJ⟩ : ∃ J, J = joinT (xs.map samT) blank := ⟨_, rfl⟩
      rw [← hJ] at hjn
      have HJ := Lib.hid hJ; clear hJ
      have Hj := Lib.hid hjn; clear hjn hz hsl hO HO hl2
      go_wp2_with fail
      refine Hj.out.mono ?_
      rintro e w1 ⟨rfl, hb2⟩
      go_wp2
      go_ret
      exact ⟨by rw [← HJ.out]; rfl, bnext hb hb2⟩

set_option maxRecDepth 100000 in
theorem specSamplesText_any (A : Option Addr) (c : Nat) (xs : List GSam) (B : Nat) (w : World) (h : SamsAt w B A xs) (hB : B ≤ w.heap.size) (hl : xs.length ≤ 1048576) (hf : ∀ x ∈ xs, GSam.fit x) :
    Calls Tryz.prog 11 #[.slice A xs.length c] w fun e w' => ∃ s cd, e = .returned (.tuple #[.string s, .int .i64 cd]) ∧ SamTextOf xs s cd ∧ Below w.heap.size w w' := by
  have H := Lib.hid h; clear h
  have Hf := Lib.hid hf; clear hf
  by_cases h1 : xs.length ≤ 4096
  · have d1 : decide (4096 < (xs.length : Int)) = false := by simp; omega
    go_enter Tryz.func11, Tryz.ntmps11
    go_wp2_with fail
    refine (specSamplesOK_any A c xs B w H.out hB hl).mono ?_
    rintro e w1 ⟨b, hb, rfl, hb1⟩
    cases b
    · have Hn := Lib.hid (show ¬ SamP xs from fun h => by have := hb.2 h; cases this)
      clear hb
      go_wp2
      exact bodyPost_ret (v := .tuple #[.string ⟨#[]⟩, .int .i64 1]) (by simp [results, Tryz.results11, go_sem]) rfl ⟨⟨#[]⟩, 1, rfl, Or.inr (Or.inl ⟨h1, Hn.out, rfl, rfl⟩), hb1⟩
    have Hp := Lib.hid (hb.1 rfl); clear hb
    by_cases h2 : xs.length ≤ 8
    · have d2 : decide (8 < (xs.length : Int)) = false := by simp; omega
      go_wp2_with fail
      refine (l03Samples_any A c xs B w1 (Sl.below H.out hb1 hB) (Nat.le_trans hB hb1.size) (by omega) Hf.out).mono ?_
      rintro e w2 ⟨rfl, hb2⟩
      obtain ⟨J, hJ⟩ : ∃ J, J = joinT (xs.map samT) blank := ⟨_, rfl⟩
      rw [← hJ]
      have HJ := Lib.hid hJ; clear hJ
      go_wp2
      exact bodyPost_ret (v := .tuple #[.string J, .int .i64 0]) (by simp [results, Tryz.results11, go_sem]) rfl ⟨J, 0, rfl, Or.inr (Or.inr (Or.inr ⟨Hp.out, h2, HJ.out, rfl⟩)), bnext hb1 hb2⟩
    · have d2 : decide (8 < (xs.length : Int)) = true := by simp; omega
      go_wp2
      exact bodyPost_ret (v := .tuple #[.string ⟨#[]⟩, .int .i64 6]) (by simp [results, Tryz.results11, go_sem]) rfl ⟨⟨#[]⟩, 6, rfl, Or.inr (Or.inr (Or.inl ⟨Hp.out, h2, rfl, rfl⟩)), hb1⟩
  · have d1 : decide (4096 < (xs.length : Int)) = true := by simp; omega
    go_enter Tryz.func11, Tryz.ntmps11
    go_wp2
    exact bodyPost_ret (v := .tuple #[.string ⟨#[]⟩, .int .i64 2]) (by simp [results, Tryz.results11, go_sem]) rfl ⟨⟨#[]⟩, 2, rfl, Or.inl ⟨h1, rfl, rfl⟩, Below.refl _ _⟩

end Go.Proofs.YtjmfffmjfbpgjaaGreatDoor

/- Contracts of the model's l03Buckets and BucketsText. Conditions: none beside lengths. -/
namespace Go.Proofs.YtjmfffmjfbpgjaaGreatDoor
open Go.ChangeShapes Go.WideShapes Go.ChangeAt Go.RowKit
set_option linter.unusedVariables false
set_option linter.unusedSimpArgs false

theorem l02Text_T (a : GAgg) (ha : a.fit) (w : World) : Calls Tryz.prog 124 #[.agg #[.int .i64 a.cnt, .int .i64 a.sum, .int .i64 a.mn, .int .i64 a.mx, .int .i64 a.fst, .int .i64 a.lst]] w fun e w' => e = .returned (.string (aggT a)) ∧ Below w.heap.size w w' := l02Text_any a ha w

set_option maxRecDepth 100000 in
set_option maxHeartbeats 1000000 in
theorem l03Buckets_any (A : Option Addr) (c : Nat) (xs : List GBkt) (B : Nat) (w : World) (h : BktsAt w B A xs) (hB : B ≤ w.heap.size) (hl : xs.length ≤ 1000) (hf : ∀ x ∈ xs, BktC x) :
    Calls Tryz.prog 57 #[.slice A xs.length c] w fun e w' => e = .returned (.string (joinT (xs.map bktT) blank)) ∧ Below w.heap.size w w' := by
  have H := Lib.hid h; clear h
  have Hf := Lib.hid hf; clear hf
  go_enter Tryz.func57, Tryz.ntmps57
  go_wp2_with fail
  have o0 : OwnSl txV 1 9 w.heap.size (w.alloc (.cells #[] 9)) (.slice (some ⟨w.heap.size, 0, none⟩) 0 0) [] := own_empty _ _ _ w
  have hbw : Below w.heap.size w (w.alloc (.cells #[] 9)) := bal (Below.refl _ _) _
  generalize w.alloc (.cells #[] 9) = w0 at o0 hbw ⊢
  have O0 := Lib.hid o0; clear o0
  go_loopw [3, 4] (fun s i wr => ∃ (j : Nat) (A : Option Addr) (c : Nat), j ≤ xs.length ∧ i = .int .i64 j ∧ s = .slice A j c ∧ Hid (OwnSl txV 1 9 w.heap.size wr (.slice A j c) ((xs.take j).map bktT)) ∧ Below w.heap.size w wr) (fun _ i _ => xs.length - (intOf i).toNat)
  case atStart => exact ⟨0, _, _, by omega, rfl, rfl, O0, hbw⟩
  case round =>
    clear O0 hbw
    obtain ⟨j, A, c2, hj, rfl, rfl, HO, hb⟩ := hrel
    by_cases hlt : j < xs.length
    · obtain ⟨b1, o1, rfl, hb1, p0, p1, p2, p3, p4, p5, p6⟩ := BktsAt.bkt H.out hlt
      have hbB : b1 < w.heap.size := by omega
      have HI := Lib.hid (Hf.out _ (List.getElem_mem hlt))
      have en : (xs.take (j + 1)).map bktT = (xs.take j).map bktT ++ [bktT xs[j]] := by rw [List.take_succ_eq_append_getElem hlt, List.map_append]; rfl
      have EN := Lib.hid en; clear en
      obtain ⟨ys, hys⟩ : ∃ ys, ys = (xs.take j).map bktT := ⟨_, rfl⟩
      have hyl : ys.length = j := by rw [hys]; simp; omega
      have HO' := HO.out
      rw [← hys] at EN HO'
      clear HO hys
      have HOr := Lib.hid HO'; clear HO'
      have z1 := numT_le HI.out.1.1.1 HI.out.1.1.2
      have z2 := aggT_size HI.out.1.2
      have z3 : ¬ 9223372036854775807 < (numT xs[j].beg).size + 1 := by omega
      have z4 : ¬ 9223372036854775807 < (numT xs[j].beg).size + 1 + (aggT xs[j].agg).size := by omega
      have eT : numT xs[j].beg ++ ⟨#[58]⟩ ++ aggT xs[j].agg = bktT xs[j] := rfl
      have j0 : (0 : Int) ≤ (j : Int) := by omega
      have j1 : (j : Int) < (xs.length : Int) := by omega
      go_wp2_with fail
      refine wp_region_noPanic ?_
      refine wp_region_held_drew (S := (fun w' => w'.cell? ⟨b1, o1 + j * 7, none⟩ = some (.int .i64 xs[j].beg) ∧ w'.cell? ⟨b1, o1 + j * 7 + 1, none⟩ = some (.int .i64 xs[j].agg.cnt) ∧ w'.cell? ⟨b1, o1 + j * 7 + 2, none⟩ = some (.int .i64 xs[j].agg.sum) ∧ w'.cell? ⟨b1, o1 + j * 7 + 3, none⟩ = some (.int .i64 xs[j].agg.mn) ∧ w'.cell? ⟨b1, o1 + j * 7 + 4, none⟩ = some (.int .i64 xs[j].agg.mx) ∧ w'.cell? ⟨b1, o1 + j * 7 + 5, none⟩ = some (.int .i64 xs[j].agg.fst) ∧ w'.cell? ⟨b1, o1 + j * 7 + 6, none⟩ = some (.int .i64 xs[j].agg.lst))) (by kernel_rfl) (⟨(hb.drew.cell hbB).trans p0, (hb.drew.cell hbB).trans p1, (hb.drew.cell hbB).trans p2, (hb.drew.cell hbB).trans p3, (hb.drew.cell hbB).trans p4, (hb.drew.cell hbB).trans p5, (hb.drew.cell hbB).trans p6⟩) (fun hHeld => ?_)
      refine wpAnyH_take (i := 0) (oi := { dst := some 12, op := Op.move (Operand.tmp 3), type := 170, pos := "l03_codec.go:73", after := #[], guard := none }) (v := ?vb0) rfl (by kernel_rfl) (by kernel_rfl) (by kernel_rfl) (fun _ _ _ h => h) (Or.inl ⟨by rfl, ?hyb0⟩) (by assumption) ?restb0
      case hyb0 => intro w hSw; (try dsimp only at hSw); (first | (go_simp; done) | (go_simp; with_reducible rfl) | (with_reducible rfl))
      try simp only [Act.put, List.setIfInBounds_toArray, List.set_cons_zero, List.set_cons_succ]
      refine wpAnyH_take (i := 1) (oi := { dst := some 13, op := Op.move (Operand.tmp 0), type := 30, pos := "l03_codec.go:73", after := #[], guard := none }) (v := ?vb1) rfl (by kernel_rfl) (by kernel_rfl) (by kernel_rfl) (fun _ _ _ h => h) (Or.inl ⟨by rfl, ?hyb1⟩) (by assumption) ?restb1
      case hyb1 => intro w hSw; (try dsimp only at hSw); (first | (go_simp; done) | (go_simp; with_reducible rfl) | (with_reducible rfl))
      try simp only [Act.put, List.setIfInBounds_toArray, List.set_cons_zero, List.set_cons_succ]
      refine wpAnyH_take (i := 2) (oi := { dst := some 14, op := Op.move (Operand.tmp 4), type := 3, pos := "l03_codec.go:73", after := #[], guard := none }) (v := ?vb2) rfl (by kernel_rfl) (by kernel_rfl) (by kernel_rfl) (fun _ _ _ h => h) (Or.inl ⟨by rfl, ?hyb2⟩) (by assumption) ?restb2
      case hyb2 => intro w hSw; (try dsimp only at hSw); (first | (go_simp; done) | (go_simp; with_reducible rfl) | (with_reducible rfl))
      try simp only [Act.put, List.setIfInBounds_toArray, List.set_cons_zero, List.set_cons_succ]
      refine wpAnyH_take (i := 3) (oi := { dst := some 15, op := Op.indexAddr 30 (Operand.tmp 13) (Operand.tmp 14), type := 0, pos := "l03_codec.go:73", after := #[{ on := 1, ground := Ground.data }, { on := 2, ground := Ground.data }], guard := none }) (v := ?vb3) rfl (by kernel_rfl) (by kernel_rfl) (by kernel_rfl) (fun _ _ _ h => h) (Or.inl ⟨by rfl, ?hyb3⟩) (by assumption) ?restb3
      case hyb3 => intro w hSw; (try dsimp only at hSw); (first | (go_simp; done) | (go_simp; with_reducible rfl) | (with_reducible rfl))
      try simp only [Act.put, List.setIfInBounds_toArray, List.set_cons_zero, List.set_cons_succ]
      refine wpAnyH_take (i := 4) (oi := { dst := some 16, op := Op.fieldAddr 101 (Operand.tmp 15) 0, type := 0, pos := "l03_codec.go:73", after := #[{ on := 3, ground := Ground.data }], guard := none }) (v := ?vb4) rfl (by kernel_rfl) (by kernel_rfl) (by kernel_rfl) (fun _ _ _ h => h) (Or.inl ⟨by rfl, ?hyb4⟩) (by assumption) ?restb4
      case hyb4 => intro w hSw; (try dsimp only at hSw); (first | (go_simp; done) | (go_simp; with_reducible rfl) | (with_reducible rfl))
      try simp only [Act.put, List.setIfInBounds_toArray, List.set_cons_zero, List.set_cons_succ]
      refine wpAnyH_take (i := 5) (oi := { dst := some 17, op := Op.load 3 (Operand.tmp 16), type := 3, pos := "l03_codec.go:73", after := #[{ on := 4, ground := Ground.data }], guard := none }) (v := ?vb5) rfl (by kernel_rfl) (by kernel_rfl) (by kernel_rfl) (fun _ _ _ h => h) (Or.inl ⟨by rfl, ?hyb5⟩) (by assumption) ?restb5
      case hyb5 => intro w hSw; (try dsimp only at hSw); (first | (go_simp; done) | (go_simp; with_reducible rfl) | (with_reducible rfl))
      try simp only [Act.put, List.setIfInBounds_toArray, List.set_cons_zero, List.set_cons_succ]
      refine wpAnyH_take (i := 8) (oi := { dst := some 20, op := Op.move (Operand.tmp 0), type := 30, pos := "l03_codec.go:73", after := #[], guard := none }) (v := ?vb8) rfl (by kernel_rfl) (by kernel_rfl) (by kernel_rfl) (fun _ _ _ h => h) (Or.inl ⟨by rfl, ?hyb8⟩) (by assumption) ?restb8
      case hyb8 => intro w hSw; (try dsimp only at hSw); (first | (go_simp; done) | (go_simp; with_reducible rfl) | (with_reducible rfl))
      try simp only [Act.put, List.setIfInBounds_toArray, List.set_cons_zero, List.set_cons_succ]
      refine wpAnyH_take (i := 9) (oi := { dst := some 21, op := Op.move (Operand.tmp 4), type := 3, pos := "l03_codec.go:73", after := #[], guard := none }) (v := ?vb9) rfl (by kernel_rfl) (by kernel_rfl) (by kernel_rfl) (fun _ _ _ h => h) (Or.inl ⟨by rfl, ?hyb9⟩) (by assumption) ?restb9
      case hyb9 => intro w hSw; (try dsimp only at hSw); (first | (go_simp; done) | (go_simp; with_reducible rfl) | (with_reducible rfl))
      try simp only [Act.put, List.setIfInBounds_toArray, List.set_cons_zero, List.set_cons_succ]
      refine wpAnyH_take (i := 10) (oi := { dst := some 22, op := Op.indexAddr 30 (Operand.tmp 20) (Operand.tmp 21), type := 0, pos := "l03_codec.go:73", after := #[{ on := 8, ground := Ground.data }, { on := 9, ground := Ground.data }], guard := none }) (v := ?vb10) rfl (by kernel_rfl) (by kernel_rfl) (by kernel_rfl) (fun _ _ _ h => h) (Or.inl ⟨by rfl, ?hyb10⟩) (by assumption) ?restb10
      case hyb10 => intro w hSw; (try dsimp only at hSw); (first | (go_simp; done) | (go_simp; with_reducible rfl) | (with_reducible rfl))
      try simp only [Act.put, List.setIfInBounds_toArray, List.set_cons_zero, List.set_cons_succ]
      refine wpAnyH_take (i := 11) (oi := { dst := some 23, op := Op.fieldAddr 101 (Operand.tmp 22) 1, type := 0, pos := "l03_codec.go:73", after := #[{ on := 10, ground := Ground.data }], guard := none }) (v := ?vb11) rfl (by kernel_rfl) (by kernel_rfl) (by kernel_rfl) (fun _ _ _ h => h) (Or.inl ⟨by rfl, ?hyb11⟩) (by assumption) ?restb11
      case hyb11 => intro w hSw; (try dsimp only at hSw); (first | (go_simp; done) | (go_simp; with_reducible rfl) | (with_reducible rfl))
      try simp only [Act.put, List.setIfInBounds_toArray, List.set_cons_zero, List.set_cons_succ]
      refine wpAnyH_take (i := 12) (oi := { dst := some 24, op := Op.load 99 (Operand.tmp 23), type := 99, pos := "l03_codec.go:73", after := #[{ on := 11, ground := Ground.data }], guard := none }) (v := ?vb12) rfl (by kernel_rfl) (by kernel_rfl) (by kernel_rfl) (fun _ _ _ h => h) (Or.inl ⟨by rfl, ?hyb12⟩) (by assumption) ?restb12
      case hyb12 => intro w hSw; (try dsimp only at hSw); (first | (go_simp; done) | (go_simp; with_reducible rfl) | (with_reducible rfl))
      try simp only [Act.put, List.setIfInBounds_toArray, List.set_cons_zero, List.set_cons_succ]
      refine wpAnyH_ready (rs := [6]) (by kernel_rfl) (by simp) ?_
      refine AllReadyH.cons (o := { dst := some 18, op := Op.call { callee := Callee.value (Operand.func 117), args := #[Operand.tmp 17], argTypes := #[3] }, type := 9, pos := "l03_codec.go:73", after := #[{ on := 5, ground := Ground.data }], guard := none }) rfl (fun K hK => ?_) AllReadyH.nil
      go_simp
      refine (digits_int xs[j].beg wr.drew HI.out.1.1.1 HI.out.1.1.2).mono ?_
      rintro e w1 ⟨rfl, hb1'⟩
      have b1' : Below w.heap.size w w1 := bnext hb.drew hb1'
      have HO1 := Lib.hid ((HOr.out.below (Below.refl _ wr).drew).below hb1')
      go_wp2_with fail
      refine hK.out _ _ (⟨(b1'.cell hbB).trans p0, (b1'.cell hbB).trans p1, (b1'.cell hbB).trans p2, (b1'.cell hbB).trans p3, (b1'.cell hbB).trans p4, (b1'.cell hbB).trans p5, (b1'.cell hbB).trans p6⟩) (fun hHeld => ?_)
      clear hK K
      try simp only [Act.put, List.setIfInBounds_toArray, List.set_cons_zero, List.set_cons_succ]
      refine wpAnyH_take (i := 7) (oi := { dst := some 19, op := Op.binOp BinOp.add 9 (Operand.tmp 18) (Operand.const (Value.string { data := #[58] })) 9, type := 9, pos := "l03_codec.go:73", after := #[{ on := 6, ground := Ground.data }], guard := none }) (v := ?vb7) rfl (by kernel_rfl) (by kernel_rfl) (by kernel_rfl) (fun _ _ _ h => h) (Or.inl ⟨by rfl, ?hyb7⟩) (by assumption) ?restb7
      case hyb7 => intro w hSw; (try dsimp only at hSw); (first | (go_simp; done) | (go_simp; with_reducible rfl) | (with_reducible rfl))
      try simp only [Act.put, List.setIfInBounds_toArray, List.set_cons_zero, List.set_cons_succ]
      refine wpAnyH_ready (rs := [13]) (by kernel_rfl) (by simp) ?_
      refine AllReadyH.cons (o := { dst := some 25, op := Op.call { callee := Callee.value (Operand.func 124), args := #[Operand.tmp 24], argTypes := #[99] }, type := 9, pos := "l03_codec.go:73", after := #[{ on := 12, ground := Ground.data }, { on := 6, ground := Ground.chain }], guard := none }) rfl (fun K hK => ?_) AllReadyH.nil
      go_simp
      refine (l02Text_T xs[j].agg HI.out.1.2 w1).mono ?_
      rintro e wL ⟨rfl, hb2'⟩
      have hbL : Below w.heap.size w wL := bnext b1' hb2'
      have HOL := Lib.hid (HO1.out.below hb2')
      have hsL : w.heap.size ≤ wL.heap.size := hbL.size
      go_wp2_with fail
      refine hK.out _ _ (⟨(hbL.cell hbB).trans p0, (hbL.cell hbB).trans p1, (hbL.cell hbB).trans p2, (hbL.cell hbB).trans p3, (hbL.cell hbB).trans p4, (hbL.cell hbB).trans p5, (hbL.cell hbB).trans p6⟩) (fun hHeld => ?_)
      clear hK K
      try simp only [Act.put, List.setIfInBounds_toArray, List.set_cons_zero, List.set_cons_succ]
      refine wpAnyH_take (i := 14) (oi := { dst := some 26, op := Op.binOp BinOp.add 9 (Operand.tmp 19) (Operand.tmp 25) 9, type := 9, pos := "l03_codec.go:73", after := #[{ on := 7, ground := Ground.data }, { on := 13, ground := Ground.data }], guard := none }) (v := ?vb14) rfl (by kernel_rfl) (by kernel_rfl) (by kernel_rfl) (fun _ _ _ h => h) (Or.inl ⟨by rfl, ?hyb14⟩) (by assumption) ?restb14
      case hyb14 => intro w hSw; (try dsimp only at hSw); (first | (go_simp; done) | (go_simp; with_reducible rfl) | (with_reducible rfl))
      try simp only [Act.put, List.setIfInBounds_toArray, List.set_cons_zero, List.set_cons_succ]
      refine wpAnyH_ready (rs := [15]) (by kernel_rfl) (by simp) ?_
      refine AllReadyH.cons (o := { dst := some 27, op := Op.buildSlice 170 1 #[(0, Operand.tmp 26)], type := 170, pos := "l03_codec.go:73", after := #[{ on := 14, ground := Ground.data }], guard := none }) rfl (fun K hK => ?_) AllReadyH.nil
      go_simp
      have hb4 : Below w.heap.size w (wL.alloc (.cells #[.string (bktT xs[j])] 9)) := bal hbL _
      have HN := Lib.hid (new_txt wL (bktT xs[j]) 9)
      have HO4 := Lib.hid (HOL.out.below (bal (Below.refl _ wL) (.cells #[.string (bktT xs[j])] 9)))
      refine hK.out _ _ (⟨(hb4.cell hbB).trans p0, (hb4.cell hbB).trans p1, (hb4.cell hbB).trans p2, (hb4.cell hbB).trans p3, (hb4.cell hbB).trans p4, (hb4.cell hbB).trans p5, (hb4.cell hbB).trans p6⟩) (fun hHeld => ?_)
      clear hK K
      try simp only [Act.put, List.setIfInBounds_toArray, List.set_cons_zero, List.set_cons_succ]
      refine wpAnyH_ready (rs := [16]) (by kernel_rfl) (by simp) ?_
      refine AllReadyH.cons (o := { dst := some 28, op := Op.call { callee := Callee.builtin Builtin.append, args := #[Operand.tmp 12, Operand.tmp 27], argTypes := #[170, 170] }, type := 170, pos := "l03_codec.go:73", after := #[{ on := 0, ground := Ground.data }, { on := 15, ground := Ground.data }, { on := 13, ground := Ground.chain }], guard := none }) rfl (fun K hK => ?_) AllReadyH.nil
      refine step_append_sl txV 1 16 (fun _ => rfl) txV_one 170 9 _ infoStr rfl (by omega) Tryz.underlying170 rfl _ _ rfl w.heap.size ys [bktT xs[j]] (.slice A j c2) rfl HO4.out (some ⟨wL.heap.size, 0, none⟩) 1 (wL.heap.size + 1) rfl HN.out (by simp [maxLen]; omega) (by simp; omega) (by simp; omega) ?_
      intro v' w5 hO5 hg5
      obtain ⟨A5, c5, rfl⟩ := hO5.form
      have HO5 := Lib.hid hO5; clear hO5
      have hb5 : Below w.heap.size w w5 := hb4.trans (below_of_grown hg5 (by simp; omega) (fun g e => (World.ownsRow.lt HO4.out g e).1))
      refine hK.out _ _ (⟨(hb5.cell hbB).trans p0, (hb5.cell hbB).trans p1, (hb5.cell hbB).trans p2, (hb5.cell hbB).trans p3, (hb5.cell hbB).trans p4, (hb5.cell hbB).trans p5, (hb5.cell hbB).trans p6⟩) (fun hHeld => ?_)
      clear hK K
      try simp only [Act.put, List.setIfInBounds_toArray, List.set_cons_zero, List.set_cons_succ]
      refine wpAnyH_take (i := 17) (oi := { dst := some 3, op := Op.assign (Operand.tmp 28), type := 170, pos := "l03_codec.go:73", after := #[{ on := 16, ground := Ground.data }, { on := 16, ground := Ground.chain }, { on := 0, ground := Ground.phase }, { on := 1, ground := Ground.phase }, { on := 2, ground := Ground.phase }, { on := 3, ground := Ground.phase }, { on := 4, ground := Ground.phase }, { on := 5, ground := Ground.phase }, { on := 6, ground := Ground.phase }, { on := 7, ground := Ground.phase }, { on := 8, ground := Ground.phase }, { on := 9, ground := Ground.phase }, { on := 10, ground := Ground.phase }, { on := 11, ground := Ground.phase }, { on := 12, ground := Ground.phase }, { on := 13, ground := Ground.phase }, { on := 14, ground := Ground.phase }, { on := 15, ground := Ground.phase }, { on := 16, ground := Ground.phase }], guard := none }) (v := ?vb17) rfl (by kernel_rfl) (by kernel_rfl) (by kernel_rfl) (fun _ _ _ h => h) (Or.inl ⟨by rfl, ?hyb17⟩) (by assumption) ?restb17
      case hyb17 => intro w hSw; (try dsimp only at hSw); (first | (go_simp; done) | (go_simp; with_reducible rfl) | (with_reducible rfl))
      try simp only [Act.put, List.setIfInBounds_toArray, List.set_cons_zero, List.set_cons_succ]
      refine wpAnyH_done (by kernel_rfl) ?_ _
      refine NoPanic.normal ?_
      have hO6 : OwnSl txV 1 9 w.heap.size w5 (.slice A5 (j + 1) c5) ((xs.take (j + 1)).map bktT) := by
        rw [EN.out]
        have := HO5.out
        simpa [hyl] using this
      have HO6 := Lib.hid hO6; clear hO6
      clear hHeld
      go_wp2
      go_roundw
      case rel => exact ⟨j + 1, A5, c5, by omega, by go_num, by simp [hyl], HO6, hb5⟩
      case measure => simp [intOf]; omega
    · obtain rfl : j = xs.length := by omega
      have hO := HO.out
      rw [List.take_length] at hO
      have hl2 : xs.length = (xs.map bktT).length := by simp
      rw [hl2] at hO
      obtain ⟨hsl, _, _, _⟩ := OwnSl.sl hO (fun x => rfl)
      have hz : (joinT (xs.map bktT) blank).size ≤ 4611686018427387904 := by
        have := joinT_size blank 1000 (xs.map bktT) (fun x hx => by
          obtain ⟨n, hn, rfl⟩ := List.mem_map.1 hx
          exact Nat.le_trans (bktT_size (Hf.out n hn)) (by omega))
        rw [List.length_map, blank_size] at this
        omega
      have hjn := joinA_any A c2 (xs.map bktT) blank _ wr hsl (Nat.le_refl _) (by simp; omega) hz
      rw [← hl2] at hjn
      obtain ⟨J, hJ⟩ : ∃ J, J = joinT (xs.map bktT) blank := ⟨_, rfl⟩
      rw [← hJ] at hjn
      have HJ := Lib.hid hJ; clear hJ
      have Hj := Lib.hid hjn; clear hjn hz hsl hO HO hl2
      go_wp2_with fail
      refine Hj.out.mono ?_
      rintro e w1 ⟨rfl, hb2⟩
      go_wp2
      go_ret
      exact ⟨by rw [← HJ.out]; rfl, bnext hb hb2⟩

set_option maxRecDepth 100000 in
theorem specBucketsText_any (A : Option Addr) (c : Nat) (xs : List GBkt) (B : Nat) (w : World) (h : BktsAt w B A xs) (hB : B ≤ w.heap.size) (hl : xs.length ≤ 1048576) (hf : ∀ x ∈ xs, GBkt.fit x) :
    Calls Tryz.prog 15 #[.slice A xs.length c] w fun e w' => ∃ s cd, e = .returned (.tuple #[.string s, .int .i64 cd]) ∧ BktTextOf xs s cd ∧ Below w.heap.size w w' := by
  have H := Lib.hid h; clear h
  have Hf := Lib.hid hf; clear hf
  by_cases h1 : xs.length ≤ 4096
  · have d1 : decide (4096 < (xs.length : Int)) = false := by simp; omega
    go_enter Tryz.func15, Tryz.ntmps15
    go_wp2_with fail
    refine (specBucketsOK_any A c xs B w H.out hB hl).mono ?_
    rintro e w1 ⟨b, hb, rfl, hb1⟩
    cases b
    · have Hn := Lib.hid (show ¬ BktP xs from fun h => by have := hb.2 h; cases this)
      clear hb
      go_wp2
      exact bodyPost_ret (v := .tuple #[.string ⟨#[]⟩, .int .i64 1]) (by simp [results, Tryz.results15, go_sem]) rfl ⟨⟨#[]⟩, 1, rfl, Or.inr (Or.inl ⟨h1, Hn.out, rfl, rfl⟩), hb1⟩
    have Hp := Lib.hid (hb.1 rfl); clear hb
    have h8 := Hp.out.1
    go_wp2_with fail
    refine (l03Buckets_any A c xs B w1 (Sl.below H.out hb1 hB) (Nat.le_trans hB hb1.size) (by omega) (bktC_of Hp.out Hf.out)).mono ?_
    rintro e w2 ⟨rfl, hb2⟩
    obtain ⟨J, hJ⟩ : ∃ J, J = joinT (xs.map bktT) blank := ⟨_, rfl⟩
    rw [← hJ]
    have HJ := Lib.hid hJ; clear hJ
    go_wp2
    exact bodyPost_ret (v := .tuple #[.string J, .int .i64 0]) (by simp [results, Tryz.results15, go_sem]) rfl ⟨J, 0, rfl, Or.inr (Or.inr ⟨Hp.out, HJ.out, rfl⟩), bnext hb1 hb2⟩
  · have d1 : decide (4096 < (xs.length : Int)) = true := by simp; omega
    go_enter Tryz.func15, Tryz.ntmps15
    go_wp2
    exact bodyPost_ret (v := .tuple #[.string ⟨#[]⟩, .int .i64 2]) (by simp [results, Tryz.results15, go_sem]) rfl ⟨⟨#[]⟩, 2, rfl, Or.inl ⟨h1, rfl, rfl⟩, Below.refl _ _⟩

end Go.Proofs.YtjmfffmjfbpgjaaGreatDoor

/- What the walk of 'laws.FnCodec' wants of drawn samples and buckets: they are right ones, they fit, their texts are the joined ones and are not long. No Go text is walked here. -/
namespace Go.Proofs.YtjmfffmjfbpgjaaGreatDoor
open Go.ChangeShapes Go.WideShapes Go.ChangeAt Go.RowKit
set_option linter.unusedVariables false
set_option linter.unusedSimpArgs false

theorem riseT_right {fr F : Int} {xs : List GSam} (h : RiseT fr F xs) (h0 : 0 ≤ fr) (h1 : F ≤ 100000) (hl : (xs.length : Int) ≤ 100) : SamP xs := by
  refine ⟨by omega, fun j hj _ => ?_⟩
  have hx := h.1 xs[j] (List.getElem_mem hj)
  exact ⟨samB_iff.2 ⟨by omega, by omega, by omega, by omega⟩, fun i hi => by subst hi; exact h.2.1 i hj⟩

theorem sam_fit {xs : List GSam} (h : SamP xs) : ∀ x ∈ xs, GSam.fit x := fun x hx => by
  have s := samP_small h x hx
  unfold Small at s
  exact ⟨by unfold I64; omega, by unfold I64; omega⟩

theorem bkt_fit {xs : List GBkt} (h : BktP xs) : ∀ x ∈ xs, GBkt.fit x := fun x hx => by
  have s := bktP_small h x hx
  have f : ∀ n ∈ x.agg.nums, I64 n := fun n hn => by have := aggP_small s.2 n hn; unfold Small at this; unfold I64; omega
  have s1 := s.1
  unfold Small at s1
  exact ⟨by unfold I64; omega, f _ (by simp [GAgg.nums]), f _ (by simp [GAgg.nums]), f _ (by simp [GAgg.nums]), f _ (by simp [GAgg.nums]), f _ (by simp [GAgg.nums]), f _ (by simp [GAgg.nums])⟩

theorem sam_text {xs : List GSam} (h : SamP xs) (h8 : xs.length ≤ 8) {s : ByteArray} {cd : Int} (k : SamTextOf xs s cd) : s = joinT (xs.map samT) blank ∧ cd = 0 := by
  rcases k with ⟨a, _⟩ | ⟨_, a, _⟩ | ⟨_, a, _⟩ | ⟨_, _, a, b⟩
  · omega
  · exact absurd h a
  · exact absurd h8 a
  · exact ⟨a, b⟩

theorem bkt_text {xs : List GBkt} (h : BktP xs) {s : ByteArray} {cd : Int} (k : BktTextOf xs s cd) : s = joinT (xs.map bktT) blank ∧ cd = 0 := by
  rcases k with ⟨a, _⟩ | ⟨_, a, _⟩ | ⟨_, a, b⟩
  · have := h.1; omega
  · exact absurd h a
  · exact ⟨a, b⟩

theorem sam_size {xs : List GSam} (h : SamP xs) (h8 : xs.length ≤ 8) : (joinT (xs.map samT) blank).size ≤ 65536 := by
  rcases sam_back h h8 (sam_fit h) with ⟨_, _, e⟩ | ⟨a, _⟩ | ⟨_, _, _, e⟩
  · omega
  · exact a
  · omega

theorem bkt_size {xs : List GBkt} (h : BktP xs) : (joinT (xs.map bktT) blank).size ≤ 65536 := by
  rcases bkt_back h (bkt_fit h) with ⟨_, _, e⟩ | ⟨a, _⟩ | ⟨_, _, _, e⟩
  · omega
  · exact a
  · omega

end Go.Proofs.YtjmfffmjfbpgjaaGreatDoor

/- The walk of 'laws.FnCodec': samples, buckets and keys that are drawn are read back from their texts. Conditions: the library's tables and tierPaths hold what their text lays there. -/
namespace Go.Proofs.YtjmfffmjfbpgjaaGreatDoor
open Go.ChangeShapes Go.WideShapes Go.ChangeAt Go.RowKit
set_option linter.unusedVariables false
set_option linter.unusedSimpArgs false

set_option maxRecDepth 100000 in
set_option maxHeartbeats 2000000 in
theorem codec_walk (A A' : Option Addr) (c c' : Nat) (bs ms : List Int) (w : World) (ob : BytesAt w w.heap.size A bs) (ft : ∀ x ∈ bs, 0 ≤ x ∧ x ≤ 255) (om : BytesAt w w.heap.size A' ms) (fm : ∀ x ∈ ms, 0 ≤ x ∧ x ≤ 255) (hl : bs.length ≤ 1048576) (hl' : ms.length ≤ 1048576) (hE : Errs w) (hP : Pow w) (hM : MaxL w) (hp : Paths w) (hz : 0 < w.heap.size) :
    Calls Tryz.prog 3 #[.slice A bs.length c, .slice A' ms.length c'] w fun e w' => e = .returned (.bool true) ∧ Below w.heap.size w w' := by
  have HE := Lib.hid hE; have HP := Lib.hid hP; have HM := Lib.hid hM; have Hp := Lib.hid hp
  have HO := Lib.hid ob; have HF := Lib.hid ft; have HO' := Lib.hid om; have HF' := Lib.hid fm
  clear hE hP hM hp ob ft om fm
  have d1 : decide (1048576 < (bs.length : Int)) = false := by simp; omega
  have d2 : decide (1048576 < (ms.length : Int)) = false := by simp; omega
  go_enter Tryz.func3, Tryz.ntmps3
  go_wp2_with fail
  refine (at_any A' ms c' 0 50 w.heap.size w HO'.out HF'.out hl' (by omega) (by omega) (by omega) (by omega)).mono ?_
  rintro e w1 ⟨r0, rfl, hr0, hr1, b1⟩
  go_wp2_with fail
  refine (samplesOf_any A bs c r0 8 w1 (Sl.more (Sl.below HO.out b1 (Nat.le_refl _)) b1.size) HF.out hl (by omega) (by omega) (by omega) (by omega)).mono ?_
  rintro e w2 ⟨A2, c2, xs, F, rfl, hO2, hR2, hl2, hb2⟩
  have hxp : SamP xs := riseT_right hR2 (by omega) (by have := hR2.2.2.2; omega) (by omega)
  have hx8 : xs.length ≤ 8 := by omega
  have HX := Lib.hid hxp
  obtain ⟨hs2, _, _, _⟩ := OwnSl.sl hO2 (fun x => rfl)
  have b2 := bnext b1 hb2
  have HS2 := Lib.hid hs2
  clear hs2 hO2 hR2 hl2 hb2 b1 hxp
  go_wp2_with fail
  refine (samplesText_any A2 c2 xs w2.heap.size w2 HS2.out (Nat.le_refl _) (by omega) (sam_fit HX.out) (HP.out.below b2 (Nat.le_refl _))).mono ?_
  rintro e w3 ⟨s, cd, rfl, hs, hb3⟩
  obtain ⟨rfl, rfl⟩ := sam_text HX.out hx8 hs
  have b3 := bnext b2 hb3
  have HS3 := Lib.hid (Sl.more (Sl.below HS2.out hb3 (Nat.le_refl _)) hb3.size)
  clear hs hb3 HS2 b2
  go_wp2_with fail
  refine (specSamplesText_any A2 c2 xs w3.heap.size w3 HS3.out (Nat.le_refl _) (by omega) (sam_fit HX.out)).mono ?_
  rintro e w4 ⟨s, cd, rfl, hs, hb4⟩
  obtain ⟨rfl, rfl⟩ := sam_text HX.out hx8 hs
  have b4 := bnext b3 hb4
  have HS4 := Lib.hid (Sl.more (Sl.below HS3.out hb4 (Nat.le_refl _)) hb4.size)
  have Hsz := Lib.hid (sam_size HX.out hx8)
  have Hbk := Lib.hid (sam_back HX.out hx8 (sam_fit HX.out))
  clear hs hb4 HS3 b3
  generalize joinT (xs.map samT) blank = T at *
  go_wp2_with fail
  refine (readSamples_any T w4 (by have := Hsz.out; omega) (HE.out.below b4 (Nat.le_refl _)) (HP.out.below b4 (Nat.le_refl _))).mono ?_
  rintro e w5 ⟨A5, c5, ys, cd, rfl, hC, hO5, hb5⟩
  obtain ⟨rfl, rfl⟩ := samCode_one Hbk.out hC
  have b5 := bnext b4 hb5
  have HS5 := Lib.hid (Sl.more (Sl.below HS4.out hb5 (Nat.le_refl _)) hb5.size)
  obtain ⟨ht5, _, _, _⟩ := OwnSl.sl hO5 (fun x => rfl)
  have HT5 := Lib.hid ht5
  clear ht5 hO5 hC hb5 HS4 b4 Hbk
  go_wp2_with fail
  refine (bucketsOf_any A' ms c' w5 (Sl.more (Sl.below HO'.out b5 (Nat.le_refl _)) b5.size) HF'.out hl').mono ?_
  rintro e w6 ⟨A6, c6, zs, rfl, hO6, hR6, hb6⟩
  have HZ := Lib.hid (hR6.right (by omega))
  have hz8 : zs.length ≤ 8 := HZ.out.1
  obtain ⟨hs6, _, _, _⟩ := OwnSl.sl hO6 (fun x => rfl)
  have b6 := bnext b5 hb6
  have HS6 := Lib.hid (Sl.more (Sl.below HS5.out hb6 (Nat.le_refl _)) hb6.size)
  have HT6 := Lib.hid (Sl.more (Sl.below HT5.out hb6 (Nat.le_refl _)) hb6.size)
  have HZ6 := Lib.hid hs6
  clear hs6 hO6 hR6 hb6 HS5 HT5 b5
  go_wp2_with fail
  refine (bucketsText_any A6 c6 zs w6.heap.size w6 HZ6.out (Nat.le_refl _) (by omega) (bkt_fit HZ.out) (HP.out.below b6 (Nat.le_refl _))).mono ?_
  rintro e w7 ⟨s, cd, rfl, hs, hb7⟩
  obtain ⟨rfl, rfl⟩ := bkt_text HZ.out hs
  have b7 := bnext b6 hb7
  have HS7 := Lib.hid (Sl.more (Sl.below HS6.out hb7 (Nat.le_refl _)) hb7.size)
  have HT7 := Lib.hid (Sl.more (Sl.below HT6.out hb7 (Nat.le_refl _)) hb7.size)
  have HZ7 := Lib.hid (Sl.more (Sl.below HZ6.out hb7 (Nat.le_refl _)) hb7.size)
  clear hs hb7 HS6 HT6 HZ6 b6
  go_wp2_with fail
  refine (specBucketsText_any A6 c6 zs w7.heap.size w7 HZ7.out (Nat.le_refl _) (by omega) (bkt_fit HZ.out)).mono ?_
  rintro e w8 ⟨s, cd, rfl, hs, hb8⟩
  obtain ⟨rfl, rfl⟩ := bkt_text HZ.out hs
  have b8 := bnext b7 hb8
  have HS8 := Lib.hid (Sl.more (Sl.below HS7.out hb8 (Nat.le_refl _)) hb8.size)
  have HT8 := Lib.hid (Sl.more (Sl.below HT7.out hb8 (Nat.le_refl _)) hb8.size)
  have HZ8 := Lib.hid (Sl.more (Sl.below HZ7.out hb8 (Nat.le_refl _)) hb8.size)
  have Hsz' := Lib.hid (bkt_size HZ.out)
  have Hbk := Lib.hid (bkt_back HZ.out (bkt_fit HZ.out))
  clear hs hb8 HS7 HT7 HZ7 b7
  generalize joinT (zs.map bktT) blank = T' at *
  go_wp2_with fail
  refine (readBuckets_any T' w8 (by have := Hsz'.out; omega) (HE.out.below b8 (Nat.le_refl _)) (HP.out.below b8 (Nat.le_refl _)) (HM.out.below b8 (Nat.le_refl _))).mono ?_
  rintro e w9 ⟨A9, c9, ys, cd, rfl, hC, hO9, hb9⟩
  obtain ⟨rfl, rfl⟩ := bktCode_one Hbk.out hC
  have b9 := bnext b8 hb9
  have HS9 := Lib.hid (Sl.more (Sl.below HS8.out hb9 (Nat.le_refl _)) hb9.size)
  have HT9 := Lib.hid (Sl.more (Sl.below HT8.out hb9 (Nat.le_refl _)) hb9.size)
  have HZ9 := Lib.hid (Sl.more (Sl.below HZ8.out hb9 (Nat.le_refl _)) hb9.size)
  obtain ⟨hy9, _, _, _⟩ := OwnSl.sl hO9 (fun x => rfl)
  have HY9 := Lib.hid hy9
  clear hy9 hO9 hC hb9 HS8 HT8 HZ8 b8 Hbk
  go_wp2_with fail
  refine (at_any A' ms c' 1 3 w.heap.size w9 (Sl.below HO'.out b9 (Nat.le_refl _)) HF'.out hl' (by omega) (by omega) (by omega) (by omega)).mono ?_
  rintro e w10 ⟨t, rfl, ht0, ht1, hb10⟩
  obtain ⟨t, rfl⟩ := Int.eq_ofNat_of_zero_le ht0
  have b10 := bnext b9 hb10
  have B10 := Lib.hid hb10
  clear hb10
  go_wp2_with fail
  refine (at_any A' ms c' 2 1000 w.heap.size w10 (Sl.below HO'.out b10 (Nat.le_refl _)) HF'.out hl' (by omega) (by omega) (by omega) (by omega)).mono ?_
  rintro e w11 ⟨n, rfl, hn0, hn1, hb11⟩
  obtain ⟨n, rfl⟩ := Int.eq_ofNat_of_zero_le hn0
  have b11 := bnext b10 hb11
  have B11 := Lib.hid (bnext B10.out hb11)
  clear hb11 B10 b10
  go_wp2_with fail
  refine (at_any A bs c 3 1000 w.heap.size w11 (Sl.below HO.out b11 (Nat.le_refl _)) HF.out hl (by omega) (by omega) (by omega) (by omega)).mono ?_
  rintro e w12 ⟨m, rfl, hm0, hm1, hb12⟩
  obtain ⟨m, rfl⟩ := Int.eq_ofNat_of_zero_le hm0
  have b12 := bnext b11 hb12
  have B12 := Lib.hid (bnext B11.out hb12)
  clear hb12 B11 b11
  go_wp2_with fail
  refine (dataKeyOK_any t n m (by omega) (by omega) (by omega) w12 (HP.out.below b12 (Nat.le_refl _)) (Hp.out.below b12 hz) (Nat.lt_of_lt_of_le hz b12.size)).mono ?_
  rintro e w13 ⟨rfl, hb13⟩
  have b13 := bnext b12 hb13
  have B13 := Lib.hid (bnext B12.out hb13)
  clear hb13 B12 b12
  have HK := Lib.hid (key_back t n m (by omega) (by omega) (by omega))
  have HG := Lib.hid (key_good t n m)
  have hks : (keyT t n m).size ≤ 30 := by have := (keyT_size t n m).2; omega
  generalize keyT t n m = key at *
  go_wp2_with fail
  refine (readKey_any key w13 (by omega) (Hp.out.below b13 hz) (Nat.lt_of_lt_of_le hz b13.size)).mono ?_
  rintro e w14 ⟨t', n', m', cd, rfl, hC, hb14⟩
  obtain ⟨rfl, rfl, rfl, rfl⟩ := keyCode_one HK.out hC
  have b14 := bnext b13 hb14
  have B14 := bnext B13.out hb14
  have HS14 := Lib.hid (Sl.more (Sl.below HS9.out B14 (Nat.le_refl _)) B14.size)
  have HT14 := Lib.hid (Sl.more (Sl.below HT9.out B14 (Nat.le_refl _)) B14.size)
  have HZ14 := Lib.hid (Sl.more (Sl.below HZ9.out B14 (Nat.le_refl _)) B14.size)
  have HY14 := Lib.hid (Sl.more (Sl.below HY9.out B14 (Nat.le_refl _)) B14.size)
  clear hC hb14 B13 b13 B14 HS9 HT9 HZ9 HY9 b9 HK
  go_wp2_with fail
  refine (sameSamples_yes A5 A2 c5 c2 xs w14.heap.size w14 HT14.out HS14.out (Nat.le_refl _) (by omega)).mono ?_
  rintro e w15 ⟨rfl, hb15⟩
  have b15 := bnext b14 hb15
  have HZ15 := Lib.hid (Sl.more (Sl.below HZ14.out hb15 (Nat.le_refl _)) hb15.size)
  have HY15 := Lib.hid (Sl.more (Sl.below HY14.out hb15 (Nat.le_refl _)) hb15.size)
  clear hb15 HZ14 HY14 HS14 HT14 b14
  go_wp2_with fail
  refine (sameBuckets_yes A9 A6 c9 c6 zs w15.heap.size w15 HY15.out HZ15.out (Nat.le_refl _) (by omega)).mono ?_
  rintro e w16 ⟨rfl, hb16⟩
  have b16 := bnext b15 hb16
  have HZ16 := Lib.hid (Sl.more (Sl.below HZ15.out hb16 (Nat.le_refl _)) hb16.size)
  clear hb16 HZ15 HY15 b15
  go_wp2_with fail
  refine (key_any key w16 (by unfold maxLen; omega)).mono ?_
  rintro e w17 ⟨bb, hbb, rfl, rfl⟩
  obtain rfl : bb = true := hbb.2 HG.out
  go_wp2_with fail
  refine (bucketsOK_any A6 c6 zs w16.heap.size w16 HZ16.out (Nat.le_refl _) (by omega)).mono ?_
  rintro e w18 ⟨bb, hbb, rfl, hb18⟩
  obtain rfl : bb = true := hbb.2 HZ.out
  have b18 := bnext b16 hb18
  clear hb18 b16 HZ16
  go_wp2
  go_ret
  exact ⟨rfl, b18⟩
  all_goals exfalso
  all_goals first
    | (rename_i hA hB; cases hA; exact hB rfl)
    | (rename_i hA; exact hA true rfl)
    | skip

end Go.Proofs.YtjmfffmjfbpgjaaGreatDoor

/- A slice of bytes that came in, opened. No Go text is walked here. -/
namespace Go.Proofs.YtjmfffmjfbpgjaaGreatDoor
open Go.ChangeShapes Go.WideShapes Go.ChangeAt Go.RowKit Go.Deep Go.Joins
set_option linter.unusedVariables false

section

variable {H : Type} {enc : TypeId × Value → H} {base : Nat} {spare : Nat → Bool} {held : Bool}

theorem open_byte' {P : Program} {w : World} {e : TypeId} {n : Nat} {cs : List Value} {y : DataW H × List MemPlace} (he : P.underlying e = some (.int .u8)) (hl : cs.length = 1) (h : DataW.trod enc P w base spare held n e cs = some y) : ∃ x : Int, cs = byteV x ∧ (0 ≤ x ∧ x ≤ 255) := by
  match cs, hl with
  | [a], _ =>
    obtain ⟨z, e0, _, l0⟩ := DataW.trod_int he h
    simp at e0
    subst e0
    simp only [Lit.wf, Bool.and_eq_true, decide_eq_true_eq] at l0
    exact ⟨z, rfl, l0⟩

theorem open_bytes' {P : Program} {t e : TypeId} {W : World} {r : Reach} {b0 : Nat} {v : Value} {d : DataW H} {p : List MemPlace} (hs : P.underlying t = some (.slice e)) (he : P.underlying e = some (.int .u8)) (hce : P.cellsOf e = 1)
    (hv : Value.okWide P W r b0 t v) (h : DataW.Trod enc P W base spare held t v d p) :
    ∃ (A : Option Addr) (c : Nat) (xs : List Int), v = .slice A xs.length c ∧ BytesAt W W.heap.size A xs ∧ (∀ x ∈ xs, 0 ≤ x ∧ x ≤ 255) ∧ xs.length ≤ maxLen := by
  obtain ⟨a0, len, cap, rfl⟩ := okWide_slice hs hv
  obtain ⟨fuel, hf⟩ := h
  obtain ⟨A, c, xs, e1, e2, e3, e4⟩ := open_sl byteV 1 (fun x => 0 ≤ x ∧ x ≤ 255) hs hce (by omega) (fun n cs y hc hy => open_byte' he hc hy) (by simpa [Value.cells] using hf)
  exact ⟨A, c, xs, e1, e2, e3, e4⟩

theorem cellsU8 : Tryz.prog.cellsOf 5 = 1 := by kernel_rfl

set_option maxRecDepth 100000 in
theorem open_bytes {W : World} {r : Reach} {b0 : Nat} {v : Value} {d : DataW H} {p : List MemPlace} (hv : Value.okWide Tryz.prog W r b0 22 v) (h : DataW.Trod enc Tryz.prog W base spare held 22 v d p) :
    ∃ (A : Option Addr) (c : Nat) (xs : List Int), v = .slice A xs.length c ∧ BytesAt W W.heap.size A xs ∧ (∀ x ∈ xs, 0 ≤ x ∧ x ≤ 255) ∧ xs.length ≤ maxLen :=
  open_bytes' Tryz.underlying22 Tryz.underlying5 cellsU8 hv h

end

end Go.Proofs.YtjmfffmjfbpgjaaGreatDoor

/- The library's tables as the program's text lays them: from the condition of a row to what the contracts ask; a world that holds them. -/
namespace Go.Proofs.YtjmfffmjfbpgjaaGreatDoor
open Go.ChangeShapes Go.WideShapes Go.ChangeAt Go.RowKit
set_option linter.unusedVariables false

theorem own : ownKnob Tryz.prog.godebug = none := by kernel_rfl
theorem laidOut : laidOutB Tryz.prog = true := by kernel_rfl

theorem pow_data : (Rows.laid_internal_strconv_uint64pow10 : DataW Unit) = Lib.tabData .u64 Lib.pow10Tab := by rfl

theorem powG : Tryz.prog.globalNamed "internal/strconv.uint64pow10" = some 3 := by kernel_rfl
theorem powT : (Tryz.prog.globals[3]?).map (·.type) = some 296 := by kernel_rfl
theorem powC : Tryz.prog.cellsOf 296 = 20 := by kernel_rfl
theorem powE : Tryz.prog.cellsOf 273 = 1 := by kernel_rfl

theorem pow_of {W : World} {n1 n2 : String} {d1 d2 : DataW Unit} {rest : List (String × DataW Unit)} (h : laidMet Tryz.prog ((n1, d1) :: (n2, d2) :: ("internal/strconv.uint64pow10", Rows.laid_internal_strconv_uint64pow10) :: rest) W) : Pow W := by
  obtain ⟨ps, ⟨g1, t1, cs1, f1, p1, q1, _, _, _, _, ⟨g2, t2, cs2, f2, p2, q2, _, _, _, _, ⟨g', t', cs, fuel, p, q, hg', ht', hvar, hd, _, _⟩, _⟩, _⟩, _⟩ := h
  obtain rfl := Option.some.inj (powG.symm.trans hg')
  obtain rfl := Option.some.inj (powT.symm.trans ht')
  rw [pow_data] at hd
  unfold Pow Lib.TabIs
  rw [hvar, ← Lib.cells_of_tab Tryz.underlying296 Tryz.underlying273 powE powC hd]

/-- the cells that a table's datum is -/
def tabCells : DataW Unit → Array Value
  | .agg l => (l.map fun | .lit (.int k z) => Value.int k z | _ => .nilIface).toArray
  | _ => #[]

/-- what a table is laid as -/
def layTab (d : DataW Unit) : Obj → Obj
  | .cells _ t frozen => .cells (tabCells d) t frozen
  | o => o

/-- a world that holds the three tables -/
noncomputable def laidWorld (os : Os) : World :=
  { World.holding Tryz.prog os ⟨#[], #[], []⟩ with heap := (((World.holding Tryz.prog os ⟨#[], #[], []⟩).heap.modify 3 (layTab Rows.laid_internal_strconv_uint64pow10)).modify 8 (layTab Rows.laid_math_bits_deBruijn32tab)).modify 9 (layTab Rows.laid_math_bits_deBruijn64tab) }

end Go.Proofs.YtjmfffmjfbpgjaaGreatDoor

/- The library's tables and the program's paths of tiers as their texts lay them: from the condition of a row to what the contracts ask; a world that holds them; the variable reads behind the call as it read before. -/
namespace Go.Proofs.YtjmfffmjfbpgjaaGreatDoor
open Go.ChangeShapes Go.WideShapes Go.ChangeAt Go.RowKit
set_option linter.unusedVariables false

theorem gTab : Tryz.prog.globalNamed "loop.example/g00601/impl.tierPaths" = some 0 := by kernel_rfl
theorem gTabType : (Tryz.prog.globals[0]?).map (·.type) = some 109 := by kernel_rfl
theorem cellsTab : Tryz.prog.cellsOf 109 = 3 := by kernel_rfl
theorem cellsStr : Tryz.prog.cellsOf 9 = 1 := by kernel_rfl

theorem bytes_inj {s : ByteArray} {z : List UInt8} (h : s.data.toList = z) : s = ⟨z.toArray⟩ := by
  subst h; rfl

/-- an array of texts that reads as a list of texts holds them, cell for cell -/
theorem cells_of_texts {H : Type} {enc : TypeId × Value → H} {P : Program} {w : World} {base : Nat} {sp : Nat → Bool} {held : Bool} {fuel : Nat} {t e : TypeId} {n : Nat} {cs : List Value} {zs : List (List UInt8)} {p : List MemPlace}
    (ht : P.underlying t = some (.array n e)) (he : P.underlying e = some .string) (hce : P.cellsOf e = 1) (hct : P.cellsOf t = n)
    (h : DataW.trod enc P w base sp held fuel t cs = some (.agg (zs.map fun z => .lit (.string z)), p)) : cs = zs.map fun z => Value.string ⟨z.toArray⟩ := by
  cases fuel with
  | zero => simp [DataW.trod] at h
  | succ fuel =>
    simp only [DataW.trod, ht, hce, hct, Nat.mul_one] at h
    split at h
    · rename_i hl
      obtain ⟨xs, hm, hx⟩ := Option.map_eq_some_iff.1 h
      have hxs : xs.map (·.1) = zs.map fun z => (DataW.lit (.string z) : DataW H) := by
        have := congrArg Prod.fst hx
        simpa using this
      have hxl : xs.length = n := by simpa using Lib.mapM_length hm
      have hzl : zs.length = n := by
        have := congrArg List.length hxs
        simp at this
        omega
      apply List.ext_getElem?
      intro i
      by_cases hi : i < n
      · obtain ⟨b, hb, hf⟩ := Lib.mapM_at hm i i (by simp [hi])
        obtain ⟨s, hc, rfl, _⟩ := DataW.trod_string he hf
        have h1 : cs[i]? = some (.string s) := by
          have := congrArg (·[0]?) hc
          simpa [List.getElem?_take, List.getElem?_drop] using this
        have h2 : (xs.map (·.1))[i]? = some (DataW.lit (.string s.data.toList) : DataW H) := by simp [hb]
        rw [hxs] at h2
        simp only [List.getElem?_map, Option.map_eq_some_iff, DataW.lit.injEq, Lit.string.injEq] at h2
        obtain ⟨z', hz', e1⟩ := h2
        have e2 : s = ⟨z'.toArray⟩ := bytes_inj e1.symm
        simp [h1, hz', e2]
      · rw [List.getElem?_eq_none (by omega), List.getElem?_eq_none (by simp; omega)]
    · cases h

/-- the paths, byte by byte -/
def pl : List (List UInt8) := [[114, 97, 119, 47], [116, 49, 47], [116, 50, 47]]

theorem paths_cells {W : World} {cs : Array Value} (hvar : W.var? Tryz.prog "loop.example/g00601/impl.tierPaths" = some cs) (hcs : cs.toList = pl.map fun z => Value.string ⟨z.toArray⟩) : Paths W ∧ 0 < W.heap.size := by
  have hp : Paths W := by
    intro i hi
    have hv := World.var?_cell gTab hvar i
    rw [hv]
    have : cs[i]? = cs.toList[i]? := by simp
    rw [this, hcs]
    match i, hi with
    | 0, _ => rfl
    | 1, _ => rfl
    | 2, _ => rfl
  exact ⟨hp, World.block_lt_of_cell? W ⟨0, 0, none⟩ (hp 0 (by omega))⟩

theorem paths_of1 {W : World} (h : laidMet Tryz.prog [("loop.example/g00601/impl.tierPaths", Rows.laid_loop_example_g00601_impl_tierPaths)] W) : Paths W ∧ 0 < W.heap.size := by
  obtain ⟨ps, ⟨g', t', cs, fuel, p, q, hg', ht', hvar, hd, _, _⟩, _⟩ := h
  obtain rfl := Option.some.inj (gTab.symm.trans hg')
  obtain rfl := Option.some.inj (gTabType.symm.trans ht')
  have hd' : DataW.trod (fun _ => ()) Tryz.prog W 0 (fun _ => true) false fuel 109 cs.toList = some (.agg (pl.map fun z => .lit (.string z)), p) := hd
  exact paths_cells hvar (cells_of_texts Tryz.underlying109 Tryz.underlying9 cellsStr cellsTab hd')

theorem paths_of4 {W : World} {n1 n2 n3 : String} {d1 d2 d3 : DataW Unit} (h : laidMet Tryz.prog [(n1, d1), (n2, d2), (n3, d3), ("loop.example/g00601/impl.tierPaths", Rows.laid_loop_example_g00601_impl_tierPaths)] W) : Paths W ∧ 0 < W.heap.size := by
  obtain ⟨ps, ⟨g1, t1, cs1, f1, p1, q1, _, _, _, _, ⟨g2, t2, cs2, f2, p2, q2, _, _, _, _, ⟨g3, t3, cs3, f3, p3, q3, _, _, _, _, ⟨g', t', cs, fuel, p, q, hg', ht', hvar, hd, _, _⟩, _⟩, _⟩, _⟩, _⟩ := h
  obtain rfl := Option.some.inj (gTab.symm.trans hg')
  obtain rfl := Option.some.inj (gTabType.symm.trans ht')
  have hd' : DataW.trod (fun _ => ()) Tryz.prog W 0 (fun _ => true) false fuel 109 cs.toList = some (.agg (pl.map fun z => .lit (.string z)), p) := hd
  exact paths_cells hvar (cells_of_texts Tryz.underlying109 Tryz.underlying9 cellsStr cellsTab hd')

/-- the variable reads behind the call as it read ahead of it -/
theorem vars_back {H : Type} {enc : TypeId × Value → H} {W W' : World} {gs : List (DataW H)} {q : List MemPlace} (h : DataW.TrodVars enc Tryz.prog W (fun _ => true) ["loop.example/g00601/impl.tierPaths"] gs q) (hb : Below W.heap.size W W') (h0 : 0 < W.heap.size) (hlt : ∀ x ∈ q, x.block < W.heap.size) :
    DataW.TrodVars enc Tryz.prog W' (fun b => decide (b < W.heap.size)) ["loop.example/g00601/impl.tierPaths"] gs q := by
  obtain ⟨g, t, cs, fuel, d, p, rfl, h1, h2, h3, h4, rfl⟩ := trodVars_one h
  obtain rfl := Option.some.inj (gTab.symm.trans h1)
  obtain rfl := Option.some.inj (gTabType.symm.trans h2)
  have k : DataW.Trod enc Tryz.prog W 0 (fun _ => true) true 109 (.agg cs) d p := ⟨fuel, h4⟩
  obtain ⟨fuel', h4'⟩ := Below.trod laidOut (by kernel_rfl) (of_decide_eq_true (by kernel_rfl)) k hb (fun x hx => hlt x (List.mem_append_right _ hx))
  exact trodVars_mk1 h1 h2 (var?_below hb gTab h0 h3) h4'

/-- the cells that a table's datum is -/
def tabCellsK : DataW Unit → Array Value
  | .agg l => (l.map fun | .lit (.int k z) => Value.int k z | .lit (.string z) => Value.string ⟨z.toArray⟩ | _ => .nilIface).toArray
  | _ => #[]

/-- what a table is laid as -/
def layTabK (d : DataW Unit) : Obj → Obj
  | .cells _ t frozen => .cells (tabCellsK d) t frozen
  | o => o

/-- a world that holds the tables -/
noncomputable def laidWorldK (os : Os) : World :=
  { World.holding Tryz.prog os ⟨#[], #[], []⟩ with heap := ((((World.holding Tryz.prog os ⟨#[], #[], []⟩).heap.modify 3 (layTabK Rows.laid_internal_strconv_uint64pow10)).modify 8 (layTabK Rows.laid_math_bits_deBruijn32tab)).modify 9 (layTabK Rows.laid_math_bits_deBruijn64tab)).modify 0 (layTabK Rows.laid_loop_example_g00601_impl_tierPaths) }

end Go.Proofs.YtjmfffmjfbpgjaaGreatDoor

/- What a row ties, whichever of the tables it names: one of what is laid, by its name; the program's variables read behind the call as they read ahead of it; worlds that hold the tables. -/
namespace Go.Proofs.YtjmfffmjfbpgjaaGreatDoor
open Go.ChangeShapes Go.WideShapes Go.ChangeAt Go.RowKit
set_option linter.unusedVariables false

theorem laidVars_at {P : Program} {W : World} : ∀ {L : List (String × DataW Unit)} {ps : List MemPlace}, DataW.LaidVars P W L ps → ∀ {n : String} {d : DataW Unit}, (n, d) ∈ L → ∃ g t cs fuel p, P.globalNamed n = some g ∧ (P.globals[g]?).map (·.type) = some t ∧ W.var? P n = some cs ∧ DataW.trod (fun _ => ()) P W 0 (fun _ => true) false fuel t cs.toList = some (d, p)
  | [], _, _, _, _, hm => by cases hm
  | (n', d') :: r, ps, h, n, d, hm => by
    obtain ⟨g, t, cs, fuel, p, q, h1, h2, h3, h4, h5, _⟩ := h
    rcases List.mem_cons.1 hm with e | hm
    · cases e; exact ⟨g, t, cs, fuel, p, h1, h2, h3, h4⟩
    · exact laidVars_at h5 hm

theorem laid_at {P : Program} {W : World} {L : List (String × DataW Unit)} (h : laidMet P L W) {n : String} {d : DataW Unit} (hm : (n, d) ∈ L) : ∃ g t cs fuel p, P.globalNamed n = some g ∧ (P.globals[g]?).map (·.type) = some t ∧ W.var? P n = some cs ∧ DataW.trod (fun _ => ()) P W 0 (fun _ => true) false fuel t cs.toList = some (d, p) := by
  obtain ⟨ps, h, _⟩ := h
  exact laidVars_at h hm

theorem paths_in {W : World} {L : List (String × DataW Unit)} (h : laidMet Tryz.prog L W) (hm : ("loop.example/g00601/impl.tierPaths", Rows.laid_loop_example_g00601_impl_tierPaths) ∈ L) : Paths W ∧ 0 < W.heap.size := by
  obtain ⟨g', t', cs, fuel, p, hg', ht', hvar, hd⟩ := laid_at h hm
  obtain rfl := Option.some.inj (gTab.symm.trans hg')
  obtain rfl := Option.some.inj (gTabType.symm.trans ht')
  have hd' : DataW.trod (fun _ => ()) Tryz.prog W 0 (fun _ => true) false fuel 109 cs.toList = some (.agg (pl.map fun z => .lit (.string z)), p) := hd
  exact paths_cells hvar (cells_of_texts Tryz.underlying109 Tryz.underlying9 cellsStr cellsTab hd')

theorem pow_in {W : World} {L : List (String × DataW Unit)} (h : laidMet Tryz.prog L W) (hm : ("internal/strconv.uint64pow10", Rows.laid_internal_strconv_uint64pow10) ∈ L) : Pow W := by
  obtain ⟨g', t', cs, fuel, p, hg', ht', hvar, hd⟩ := laid_at h hm
  obtain rfl := Option.some.inj (powG.symm.trans hg')
  obtain rfl := Option.some.inj (powT.symm.trans ht')
  rw [pow_data] at hd
  unfold Pow Lib.TabIs
  rw [hvar, ← Lib.cells_of_tab Tryz.underlying296 Tryz.underlying273 powE powC hd]

theorem gWidA : Tryz.prog.globalNamed "loop.example/g00601/impl.tierWidths" = some 2 := by kernel_rfl
theorem gWidTypeA : (Tryz.prog.globals[2]?).map (·.type) = some 50 := by kernel_rfl
theorem cellsTriA : Tryz.prog.cellsOf 50 = 3 := by kernel_rfl
theorem cellsIntA : Tryz.prog.cellsOf 3 = 1 := by kernel_rfl
theorem widDataA : (Rows.laid_loop_example_g00601_impl_tierWidths : DataW Unit) = Lib.tabData .i64 [1, 5, 20] := rfl

theorem wid_in {W : World} {L : List (String × DataW Unit)} (h : laidMet Tryz.prog L W) (hm : ("loop.example/g00601/impl.tierWidths", Rows.laid_loop_example_g00601_impl_tierWidths) ∈ L) : Tab3 2 wid W ∧ 2 < W.heap.size := by
  obtain ⟨g', t', cs, fuel, p, hg', ht', hvar, hd⟩ := laid_at h hm
  obtain rfl := Option.some.inj (gWidA.symm.trans hg')
  obtain rfl := Option.some.inj (gWidTypeA.symm.trans ht')
  rw [widDataA] at hd
  have hcs := Lib.cells_of_tab Tryz.underlying50 Tryz.underlying3 cellsIntA cellsTriA hd
  have hp : Tab3 2 wid W := by
    intro i hi
    rw [World.var?_cell gWidA hvar i]
    have : cs[i]? = cs.toList[i]? := by simp
    rw [this, hcs, List.getElem?_map]
    rcases three hi with rfl | rfl | rfl <;> rfl
  exact ⟨hp, World.block_lt_of_cell? W ⟨2, 0, none⟩ (hp 0 (by omega))⟩

/-- the program's variables read behind the call as they read ahead of it -/
theorem vars_backs {H : Type} {enc : TypeId × Value → H} {W W' : World} (hb : Below W.heap.size W W') : ∀ (ns : List String) (gs : List (DataW H)) (q : List MemPlace), (∀ n ∈ ns, ∃ g t, Tryz.prog.globalNamed n = some g ∧ (Tryz.prog.globals[g]?).map (·.type) = some t ∧ (t = 109 ∨ t = 50) ∧ g < W.heap.size) →
    DataW.TrodVars enc Tryz.prog W (fun _ => true) ns gs q → (∀ x ∈ q, x.block < W.heap.size) → DataW.TrodVars enc Tryz.prog W' (fun b => decide (b < W.heap.size)) ns gs q
  | [], [], q, _, h, _ => h
  | n :: ns, d :: gs, q, hn, h, hlt => by
    obtain ⟨g, t, cs, fuel, p, q', h1, h2, h3, h4, h5, rfl⟩ := h
    obtain ⟨g', t', e1, e2, et, hz⟩ := hn n (by simp)
    obtain rfl := Option.some.inj (e1.symm.trans h1)
    obtain rfl := Option.some.inj (e2.symm.trans h2)
    have k : DataW.Trod enc Tryz.prog W 0 (fun _ => true) true t' (.agg cs) d p := ⟨fuel, h4⟩
    have k2 : DataW.Trod enc Tryz.prog W' 0 (fun b => decide (b < W.heap.size)) true t' (.agg cs) d p := by
      rcases et with rfl | rfl
      · exact Below.trod laidOut (by kernel_rfl) (of_decide_eq_true (by kernel_rfl)) k hb (fun x hx => hlt x (List.mem_append_left _ (List.mem_append_right _ hx)))
      · exact Below.trod laidOut (by kernel_rfl) (of_decide_eq_true (by kernel_rfl)) k hb (fun x hx => hlt x (List.mem_append_left _ (List.mem_append_right _ hx)))
    obtain ⟨fuel', h4'⟩ := k2
    exact ⟨g', t', cs, fuel', p, q', h1, h2, var?_below hb h1 hz h3, h4', vars_backs hb ns gs q' (fun m hm => hn m (List.mem_cons_of_mem _ hm)) h5 (fun x hx => hlt x (List.mem_append_right _ hx)), rfl⟩
  | [], _ :: _, _, _, h, _ => by cases h
  | _ :: _, [], _, _, h, _ => by cases h

/-- the cells that a table's datum is, of numbers, of texts or of structs of numbers -/
def tabCellsA : DataW Unit → Array Value
  | .agg l => (l.flatMap fun | .lit (.int k z) => [Value.int k z] | .lit (.string z) => [Value.string ⟨z.toArray⟩] | .agg m => (m.map fun | .lit (.int k z) => Value.int k z | _ => .nilIface) | _ => []).toArray
  | _ => #[]

def layTabA (d : DataW Unit) : Obj → Obj
  | .cells _ t frozen => .cells (tabCellsA d) t frozen
  | o => o

/-- a world that holds the tables of numbers, the paths and the widths -/
noncomputable def laidWorldD (os : Os) : World :=
  { World.holding Tryz.prog os ⟨#[], #[], []⟩ with heap := (((((World.holding Tryz.prog os ⟨#[], #[], []⟩).heap.modify 3 (layTabA Rows.laid_internal_strconv_uint64pow10)).modify 8 (layTabA Rows.laid_math_bits_deBruijn32tab)).modify 9 (layTabA Rows.laid_math_bits_deBruijn64tab)).modify 0 (layTabA Rows.laid_loop_example_g00601_impl_tierPaths)).modify 2 (layTabA Rows.laid_loop_example_g00601_impl_tierWidths) }

end Go.Proofs.YtjmfffmjfbpgjaaGreatDoor

/- The library's tables, its two errors' variables and its MaxLen: from the conditions of a row to what the contracts ask; a world that holds them. -/
namespace Go.Proofs.YtjmfffmjfbpgjaaGreatDoor
open Go.ChangeShapes Go.WideShapes Go.ChangeAt Go.RowKit
set_option linter.unusedVariables false

theorem synG : Tryz.prog.globalNamed "strconv.ErrSyntax" = some 4 := by kernel_rfl
theorem synT : (Tryz.prog.globals[4]?).map (·.type) = some 113 := by kernel_rfl
theorem ranG : Tryz.prog.globalNamed "strconv.ErrRange" = some 5 := by kernel_rfl
theorem ranT : (Tryz.prog.globals[5]?).map (·.type) = some 113 := by kernel_rfl

theorem errs_of2 {W : World} {cs cs' : Array Value} {f f' : Nat} {p p' : List MemPlace} {nm nm' : String} {d d' : DataW Unit} (h1 : W.var? Tryz.prog "strconv.ErrRange" = some cs) (k1 : DataW.trod (fun _ => ()) Tryz.prog W 0 (fun _ => true) false f 113 cs.toList = some (.iface nm d, p))
    (h2 : W.var? Tryz.prog "strconv.ErrSyntax" = some cs') (k2 : DataW.trod (fun _ => ()) Tryz.prog W 0 (fun _ => true) false f' 113 cs'.toList = some (.iface nm' d', p')) : Errs W := by
  obtain ⟨_, u, v, e, _⟩ := iface_of_trod Tryz.underlying113 k1
  obtain ⟨_, u', v', e', _⟩ := iface_of_trod Tryz.underlying113 k2
  have c1 := World.var?_cell ranG h1 0
  have c2 := World.var?_cell synG h2 0
  rw [show cs[0]? = cs.toList[0]? by simp, e] at c1
  rw [show cs'[0]? = cs'.toList[0]? by simp, e'] at c2
  exact ⟨⟨_, c2, Or.inr ⟨u', v', rfl⟩⟩, ⟨_, c1, Or.inr ⟨u, v, rfl⟩⟩⟩

theorem errs_of7 {W : World} {n1 n2 n3 n4 : String} {d1 d2 d3 d4 : DataW Unit} {rest : List (String × DataW Unit)} (h : laidMet Tryz.prog ((n1, d1) :: (n2, d2) :: (n3, d3) :: (n4, d4) :: ("strconv.ErrRange", Rows.laid_strconv_ErrRange) :: ("strconv.ErrSyntax", Rows.laid_strconv_ErrSyntax) :: rest) W) : Errs W := by
  obtain ⟨ps, ⟨g1, t1, cs1, f1, p1, q1, _, _, _, _, ⟨g2, t2, cs2, f2, p2, q2, _, _, _, _, ⟨g3, t3, cs3, f3, p3, q3, _, _, _, _, ⟨g4, t4, cs4, f4, p4, q4, _, _, _, _, ⟨g5, t5, cs5, f5, p5, q5, hg5, ht5, hv5, hd5, ⟨g6, t6, cs6, f6, p6, q6, hg6, ht6, hv6, hd6, _, _⟩, _⟩, _⟩, _⟩, _⟩, _⟩, _⟩ := h
  obtain rfl := Option.some.inj (ranG.symm.trans hg5)
  obtain rfl := Option.some.inj (ranT.symm.trans ht5)
  obtain rfl := Option.some.inj (synG.symm.trans hg6)
  obtain rfl := Option.some.inj (synT.symm.trans ht6)
  exact errs_of2 hv5 hd5 hv6 hd6

theorem errs_of5 {W : World} {n1 n2 n3 : String} {d1 d2 d3 : DataW Unit} {rest : List (String × DataW Unit)} (h : laidMet Tryz.prog ((n1, d1) :: (n2, d2) :: (n3, d3) :: ("strconv.ErrRange", Rows.laid_strconv_ErrRange) :: ("strconv.ErrSyntax", Rows.laid_strconv_ErrSyntax) :: rest) W) : Errs W := by
  obtain ⟨ps, ⟨g1, t1, cs1, f1, p1, q1, _, _, _, _, ⟨g2, t2, cs2, f2, p2, q2, _, _, _, _, ⟨g3, t3, cs3, f3, p3, q3, _, _, _, _, ⟨g5, t5, cs5, f5, p5, q5, hg5, ht5, hv5, hd5, ⟨g6, t6, cs6, f6, p6, q6, hg6, ht6, hv6, hd6, _, _⟩, _⟩, _⟩, _⟩, _⟩, _⟩ := h
  obtain rfl := Option.some.inj (ranG.symm.trans hg5)
  obtain rfl := Option.some.inj (ranT.symm.trans ht5)
  obtain rfl := Option.some.inj (synG.symm.trans hg6)
  obtain rfl := Option.some.inj (synT.symm.trans ht6)
  exact errs_of2 hv5 hd5 hv6 hd6

/-- a variable of an int holds one -/
theorem int_of_shape {P : Program} {w : World} {g : Nat} {t : TypeId} {zero : Array Value} (h : w.ShapedOpen P) (hg : g < P.globals.size)
    (h0 : ((begin P (fun _ _ => 0) default).world.heap[g]?).bind Obj.row? = some (zero, t)) (hz : zero.size = 1)
    (hb : P.buildable t = true) (hc : P.cellTypes P.depth t = some [t]) (hu : P.underlying t = some (.int .i64)) : ∃ m, w.cell? ⟨g, 0, none⟩ = some (.int .i64 m) := by
  obtain ⟨cs, hh, hs, hr⟩ := h.1 g zero t hg h0
  obtain ⟨ts, hts, _, hall⟩ := hr hb
  rw [hc] at hts
  cases hts
  have h1 : 0 < cs.size := by omega
  obtain ⟨u, hu', hok⟩ := hall 0 cs[0] (by simp [h1])
  have : u = t := by simpa using hu'.symm
  subst this
  have hcell : w.cell? ⟨g, 0, none⟩ = some cs[0] := by simp [World.cell?, hh, h1]
  rw [hcell]
  unfold Cell.ok at hok
  rw [hu] at hok
  cases hv : cs[0] <;> rw [hv] at hok <;> simp at hok
  rename_i k n
  obtain ⟨rfl, _⟩ := hok
  exact ⟨n, rfl⟩

theorem maxL_of {W : World} (h : W.ShapedOpen Tryz.prog) : MaxL W :=
  int_of_shape (t := 3) (zero := #[.int .i64 0]) h (of_decide_eq_true (by kernel_rfl)) (by kernel_rfl) rfl (by kernel_rfl) (by kernel_rfl) Tryz.underlying3

/-- the cells that a table's datum is, of numbers or of structs of numbers -/
def tabCells2 : DataW Unit → Array Value
  | .agg l => (l.flatMap fun | .lit (.int k z) => [Value.int k z] | .agg m => (m.map fun | .lit (.int k z) => Value.int k z | _ => .nilIface) | _ => []).toArray
  | _ => #[]

def layTab2 (d : DataW Unit) : Obj → Obj
  | .cells _ t frozen => .cells (tabCells2 d) t frozen
  | o => o

def textOfD : DataW Unit → ByteArray
  | .iface _ (.ptr (.agg [.lit (.string z)])) => ⟨z.toArray⟩
  | _ => ⟨#[]⟩

noncomputable def low : Nat := (World.holding Tryz.prog default ⟨#[], #[], []⟩).heap.size

def layErr (b : Nat) : Obj → Obj
  | .cells _ t frozen => .cells #[.iface 317 (.pointer (some ⟨b, 0, none⟩))] t frozen
  | o => o

/-- a world that holds the tables and the errors -/
noncomputable def laidWorld7 (os : Os) : World :=
  let w0 := World.holding Tryz.prog os ⟨#[.cells #[.string (textOfD Rows.laid_strconv_ErrRange)] 319, .cells #[.string (textOfD Rows.laid_strconv_ErrSyntax)] 319], #[], []⟩
  { w0 with heap := (((((((w0.heap.modify 3 (layTab2 Rows.laid_internal_strconv_uint64pow10)).modify 8 (layTab2 Rows.laid_math_bits_deBruijn32tab)).modify 9 (layTab2 Rows.laid_math_bits_deBruijn64tab)).modify 7 (layTab2 Rows.laid_unicode_utf8_acceptRanges)).modify 6 (layTab2 Rows.laid_unicode_utf8_first)).modify 5 (layErr low)).modify 4 (layErr (low + 1))) }

end Go.Proofs.YtjmfffmjfbpgjaaGreatDoor

/- What a row ties besides: the library's errors; a world that holds the tables, the paths, the widths and the errors. -/
namespace Go.Proofs.YtjmfffmjfbpgjaaGreatDoor
open Go.ChangeShapes Go.WideShapes Go.ChangeAt Go.RowKit
set_option linter.unusedVariables false

theorem errs_in {W : World} {L : List (String × DataW Unit)} (h : laidMet Tryz.prog L W) (hm1 : ("strconv.ErrRange", Rows.laid_strconv_ErrRange) ∈ L) (hm2 : ("strconv.ErrSyntax", Rows.laid_strconv_ErrSyntax) ∈ L) : Errs W := by
  obtain ⟨g5, t5, cs5, f5, p5, hg5, ht5, hv5, hd5⟩ := laid_at h hm1
  obtain ⟨g6, t6, cs6, f6, p6, hg6, ht6, hv6, hd6⟩ := laid_at h hm2
  obtain rfl := Option.some.inj (ranG.symm.trans hg5)
  obtain rfl := Option.some.inj (ranT.symm.trans ht5)
  obtain rfl := Option.some.inj (synG.symm.trans hg6)
  obtain rfl := Option.some.inj (synT.symm.trans ht6)
  exact errs_of2 hv5 hd5 hv6 hd6

/-- a world that holds the tables, the paths, the widths and the errors -/
noncomputable def laidWorldZ (os : Os) : World :=
  let w0 := World.holding Tryz.prog os ⟨#[.cells #[.string (textOfD Rows.laid_strconv_ErrRange)] 319, .cells #[.string (textOfD Rows.laid_strconv_ErrSyntax)] 319], #[], []⟩
  { w0 with heap := (((((((((w0.heap.modify 3 (layTabA Rows.laid_internal_strconv_uint64pow10)).modify 8 (layTabA Rows.laid_math_bits_deBruijn32tab)).modify 9 (layTabA Rows.laid_math_bits_deBruijn64tab)).modify 7 (layTabA Rows.laid_unicode_utf8_acceptRanges)).modify 6 (layTabA Rows.laid_unicode_utf8_first)).modify 5 (layErr low)).modify 4 (layErr (low + 1))).modify 0 (layTabA Rows.laid_loop_example_g00601_impl_tierPaths)).modify 2 (layTabA Rows.laid_loop_example_g00601_impl_tierWidths)) }

end Go.Proofs.YtjmfffmjfbpgjaaGreatDoor
