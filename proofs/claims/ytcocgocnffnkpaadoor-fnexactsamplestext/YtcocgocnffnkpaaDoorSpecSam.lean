/-
  Contracts of the model's l03Samples and SamplesText. Conditions: none beside lengths.
-/
import Derived.Test.YtcocgocnffnkpaaDoorSamTxt
import Derived.Test.YtcocgocnffnkpaaDoorSpecTxt
namespace Go.Proofs.YtcocgocnffnkpaaDoor
open Go.ChangeShapes Go.WideShapes Go.ChangeAt Go.RowKit
set_option linter.unusedVariables false
set_option linter.unusedSimpArgs false

set_option maxRecDepth 100000 in
set_option maxHeartbeats 1000000 in
theorem l03Samples_any (A : Option Addr) (c : Nat) (xs : List GSam) (B : Nat) (w : World) (h : SamsAt w B A xs) (hB : B ≤ w.heap.size) (hl : xs.length ≤ 1000) (hf : ∀ x ∈ xs, GSam.fit x) :
    Calls Tryd.prog 46 #[.slice A xs.length c] w fun e w' => e = .returned (.string (joinT (xs.map samT) blank)) ∧ Below w.heap.size w w' := by
  have H := Lib.hid h; clear h
  have Hf := Lib.hid hf; clear hf
  go_enter Tryd.func46, Tryd.ntmps46
  go_wp2_with fail
  have o0 : OwnSl txV 1 9 w.heap.size (w.alloc (.cells #[] 9)) (.slice (some ⟨w.heap.size, 0, none⟩) 0 0) [] := own_empty _ _ _ w
  have hbw : Below w.heap.size w (w.alloc (.cells #[] 9)) := bal (Below.refl _ _) _
  generalize w.alloc (.cells #[] 9) = w0 at o0 hbw ⊢
  have O0 := Lib.hid o0; clear o0
  go_loopw [3, 4] (fun s i wr => ∃ (j : Nat) (A : Option Addr) (c : Nat), j ≤ xs.length ∧ i = .int .i64 j ∧ s = .slice A j c ∧ Hid (OwnSl txV 1 9 w.heap.size wr (.slice A j c) ((xs.take j).map samT)) ∧ Below w.heap.size w wr) (fun _ i _ => xs.length - (intOf i).toNat)
  case atStart => exact ⟨0, _, _, by omega, rfl, rfl, O0, hbw⟩
  case round =>
    clear O0 hbw
    obtain ⟨j, A, c2, hj, rfl, rfl, HO, hb⟩ := hrel
    by_cases hlt : j < xs.length
    · obtain ⟨b1, o1, rfl, hb1, p0, p1⟩ := SamsAt.sam H.out hlt
      have hbB : b1 < w.heap.size := by omega
      have HI := Lib.hid (Hf.out _ (List.getElem_mem hlt))
      have en : (xs.take (j + 1)).map samT = (xs.take j).map samT ++ [samT xs[j]] := by rw [List.take_succ_eq_append_getElem hlt, List.map_append]; rfl
      have EN := Lib.hid en; clear en
      obtain ⟨ys, hys⟩ : ∃ ys, ys = (xs.take j).map samT := ⟨_, rfl⟩
      have hyl : ys.length = j := by rw [hys]; simp; omega
      have HO' := HO.out
      rw [← hys] at EN HO'
      clear HO hys
      have HOr := Lib.hid HO'; clear HO'
      have z1 := numT_le HI.out.1.1 HI.out.1.2
      have z2 := numT_le HI.out.2.1 HI.out.2.2
      have z3 : ¬ 9223372036854775807 < (numT xs[j].t).size + 1 := by omega
      have z4 : ¬ 9223372036854775807 < (numT xs[j].t).size + 1 + (numT xs[j].v).size := by omega
      have eT : numT xs[j].t ++ ⟨#[61]⟩ ++ numT xs[j].v = samT xs[j] := rfl
      have j0 : (0 : Int) ≤ (j : Int) := by omega
      have j1 : (j : Int) < (xs.length : Int) := by omega
      go_wp2_with fail
      refine wp_region_noPanic ?_
      refine wp_region_held_drew (S := (fun w' => w'.cell? ⟨b1, o1 + j * 2, none⟩ = some (.int .i64 xs[j].t) ∧ w'.cell? ⟨b1, o1 + j * 2 + 1, none⟩ = some (.int .i64 xs[j].v))) (by kernel_rfl) (⟨(hb.drew.cell hbB).trans p0, (hb.drew.cell hbB).trans p1⟩) (fun hHeld => ?_)
      refine wpAnyH_take (i := 0) (oi := { dst := some 12, op := Op.move (Operand.tmp 3), type := 106, pos := "l03_codec.go:8", after := #[], guard := none }) (v := ?vc0) rfl (by kernel_rfl) (by kernel_rfl) (by kernel_rfl) (fun _ _ _ h => h) (Or.inl ⟨by rfl, ?hyc0⟩) (by assumption) ?restc0
      case hyc0 => intro w hSw; (try dsimp only at hSw); (first | (go_simp; done) | (go_simp; with_reducible rfl) | (with_reducible rfl))
      try simp only [Act.put, List.setIfInBounds_toArray, List.set_cons_zero, List.set_cons_succ]
      refine wpAnyH_take (i := 1) (oi := { dst := some 13, op := Op.move (Operand.tmp 0), type := 41, pos := "l03_codec.go:8", after := #[], guard := none }) (v := ?vc1) rfl (by kernel_rfl) (by kernel_rfl) (by kernel_rfl) (fun _ _ _ h => h) (Or.inl ⟨by rfl, ?hyc1⟩) (by assumption) ?restc1
      case hyc1 => intro w hSw; (try dsimp only at hSw); (first | (go_simp; done) | (go_simp; with_reducible rfl) | (with_reducible rfl))
      try simp only [Act.put, List.setIfInBounds_toArray, List.set_cons_zero, List.set_cons_succ]
      refine wpAnyH_take (i := 2) (oi := { dst := some 14, op := Op.move (Operand.tmp 4), type := 3, pos := "l03_codec.go:8", after := #[], guard := none }) (v := ?vc2) rfl (by kernel_rfl) (by kernel_rfl) (by kernel_rfl) (fun _ _ _ h => h) (Or.inl ⟨by rfl, ?hyc2⟩) (by assumption) ?restc2
      case hyc2 => intro w hSw; (try dsimp only at hSw); (first | (go_simp; done) | (go_simp; with_reducible rfl) | (with_reducible rfl))
      try simp only [Act.put, List.setIfInBounds_toArray, List.set_cons_zero, List.set_cons_succ]
      refine wpAnyH_take (i := 3) (oi := { dst := some 15, op := Op.indexAddr 41 (Operand.tmp 13) (Operand.tmp 14), type := 0, pos := "l03_codec.go:8", after := #[{ on := 1, ground := Ground.data }, { on := 2, ground := Ground.data }], guard := none }) (v := ?vc3) rfl (by kernel_rfl) (by kernel_rfl) (by kernel_rfl) (fun _ _ _ h => h) (Or.inl ⟨by rfl, ?hyc3⟩) (by assumption) ?restc3
      case hyc3 => intro w hSw; (try dsimp only at hSw); (first | (go_simp; done) | (go_simp; with_reducible rfl) | (with_reducible rfl))
      try simp only [Act.put, List.setIfInBounds_toArray, List.set_cons_zero, List.set_cons_succ]
      refine wpAnyH_take (i := 4) (oi := { dst := some 16, op := Op.fieldAddr 72 (Operand.tmp 15) 0, type := 0, pos := "l03_codec.go:8", after := #[{ on := 3, ground := Ground.data }], guard := none }) (v := ?vc4) rfl (by kernel_rfl) (by kernel_rfl) (by kernel_rfl) (fun _ _ _ h => h) (Or.inl ⟨by rfl, ?hyc4⟩) (by assumption) ?restc4
      case hyc4 => intro w hSw; (try dsimp only at hSw); (first | (go_simp; done) | (go_simp; with_reducible rfl) | (with_reducible rfl))
      try simp only [Act.put, List.setIfInBounds_toArray, List.set_cons_zero, List.set_cons_succ]
      refine wpAnyH_take (i := 5) (oi := { dst := some 17, op := Op.load 3 (Operand.tmp 16), type := 3, pos := "l03_codec.go:8", after := #[{ on := 4, ground := Ground.data }], guard := none }) (v := ?vc5) rfl (by kernel_rfl) (by kernel_rfl) (by kernel_rfl) (fun _ _ _ h => h) (Or.inl ⟨by rfl, ?hyc5⟩) (by assumption) ?restc5
      case hyc5 => intro w hSw; (try dsimp only at hSw); (first | (go_simp; done) | (go_simp; with_reducible rfl) | (with_reducible rfl))
      try simp only [Act.put, List.setIfInBounds_toArray, List.set_cons_zero, List.set_cons_succ]
      refine wpAnyH_take (i := 8) (oi := { dst := some 20, op := Op.move (Operand.tmp 0), type := 41, pos := "l03_codec.go:8", after := #[], guard := none }) (v := ?vc8) rfl (by kernel_rfl) (by kernel_rfl) (by kernel_rfl) (fun _ _ _ h => h) (Or.inl ⟨by rfl, ?hyc8⟩) (by assumption) ?restc8
      case hyc8 => intro w hSw; (try dsimp only at hSw); (first | (go_simp; done) | (go_simp; with_reducible rfl) | (with_reducible rfl))
      try simp only [Act.put, List.setIfInBounds_toArray, List.set_cons_zero, List.set_cons_succ]
      refine wpAnyH_take (i := 9) (oi := { dst := some 21, op := Op.move (Operand.tmp 4), type := 3, pos := "l03_codec.go:8", after := #[], guard := none }) (v := ?vc9) rfl (by kernel_rfl) (by kernel_rfl) (by kernel_rfl) (fun _ _ _ h => h) (Or.inl ⟨by rfl, ?hyc9⟩) (by assumption) ?restc9
      case hyc9 => intro w hSw; (try dsimp only at hSw); (first | (go_simp; done) | (go_simp; with_reducible rfl) | (with_reducible rfl))
      try simp only [Act.put, List.setIfInBounds_toArray, List.set_cons_zero, List.set_cons_succ]
      refine wpAnyH_take (i := 10) (oi := { dst := some 22, op := Op.indexAddr 41 (Operand.tmp 20) (Operand.tmp 21), type := 0, pos := "l03_codec.go:8", after := #[{ on := 8, ground := Ground.data }, { on := 9, ground := Ground.data }], guard := none }) (v := ?vc10) rfl (by kernel_rfl) (by kernel_rfl) (by kernel_rfl) (fun _ _ _ h => h) (Or.inl ⟨by rfl, ?hyc10⟩) (by assumption) ?restc10
      case hyc10 => intro w hSw; (try dsimp only at hSw); (first | (go_simp; done) | (go_simp; with_reducible rfl) | (with_reducible rfl))
      try simp only [Act.put, List.setIfInBounds_toArray, List.set_cons_zero, List.set_cons_succ]
      refine wpAnyH_take (i := 11) (oi := { dst := some 23, op := Op.fieldAddr 72 (Operand.tmp 22) 1, type := 0, pos := "l03_codec.go:8", after := #[{ on := 10, ground := Ground.data }], guard := none }) (v := ?vc11) rfl (by kernel_rfl) (by kernel_rfl) (by kernel_rfl) (fun _ _ _ h => h) (Or.inl ⟨by rfl, ?hyc11⟩) (by assumption) ?restc11
      case hyc11 => intro w hSw; (try dsimp only at hSw); (first | (go_simp; done) | (go_simp; with_reducible rfl) | (with_reducible rfl))
      try simp only [Act.put, List.setIfInBounds_toArray, List.set_cons_zero, List.set_cons_succ]
      refine wpAnyH_take (i := 12) (oi := { dst := some 24, op := Op.load 3 (Operand.tmp 23), type := 3, pos := "l03_codec.go:8", after := #[{ on := 11, ground := Ground.data }], guard := none }) (v := ?vc12) rfl (by kernel_rfl) (by kernel_rfl) (by kernel_rfl) (fun _ _ _ h => h) (Or.inl ⟨by rfl, ?hyc12⟩) (by assumption) ?restc12
      case hyc12 => intro w hSw; (try dsimp only at hSw); (first | (go_simp; done) | (go_simp; with_reducible rfl) | (with_reducible rfl))
      try simp only [Act.put, List.setIfInBounds_toArray, List.set_cons_zero, List.set_cons_succ]
      refine wpAnyH_ready (rs := [6]) (by kernel_rfl) (by simp) ?_
      refine AllReadyH.cons (o := { dst := some 18, op := Op.call { callee := Callee.value (Operand.func 78), args := #[Operand.tmp 17], argTypes := #[3] }, type := 9, pos := "l03_codec.go:8", after := #[{ on := 5, ground := Ground.data }], guard := none }) rfl (fun K hK => ?_) AllReadyH.nil
      go_simp
      refine (digits_int xs[j].t wr.drew HI.out.1.1 HI.out.1.2).mono ?_
      rintro e w1 ⟨rfl, hb1'⟩
      have b1' : Below w.heap.size w w1 := bnext hb.drew hb1'
      have HO1 := Lib.hid ((HOr.out.below (Below.refl _ wr).drew).below hb1')
      go_wp2_with fail
      refine hK.out _ _ (⟨(b1'.cell hbB).trans p0, (b1'.cell hbB).trans p1⟩) (fun hHeld => ?_)
      clear hK K
      try simp only [Act.put, List.setIfInBounds_toArray, List.set_cons_zero, List.set_cons_succ]
      refine wpAnyH_take (i := 7) (oi := { dst := some 19, op := Op.binOp BinOp.add 9 (Operand.tmp 18) (Operand.const (Value.string { data := #[61] })) 9, type := 9, pos := "l03_codec.go:8", after := #[{ on := 6, ground := Ground.data }], guard := none }) (v := ?vc7) rfl (by kernel_rfl) (by kernel_rfl) (by kernel_rfl) (fun _ _ _ h => h) (Or.inl ⟨by rfl, ?hyc7⟩) (by assumption) ?restc7
      case hyc7 => intro w hSw; (try dsimp only at hSw); (first | (go_simp; done) | (go_simp; with_reducible rfl) | (with_reducible rfl))
      try simp only [Act.put, List.setIfInBounds_toArray, List.set_cons_zero, List.set_cons_succ]
      refine wpAnyH_ready (rs := [13]) (by kernel_rfl) (by simp) ?_
      refine AllReadyH.cons (o := { dst := some 25, op := Op.call { callee := Callee.value (Operand.func 78), args := #[Operand.tmp 24], argTypes := #[3] }, type := 9, pos := "l03_codec.go:8", after := #[{ on := 12, ground := Ground.data }, { on := 6, ground := Ground.chain }], guard := none }) rfl (fun K hK => ?_) AllReadyH.nil
      go_simp
      refine (digits_int xs[j].v w1 HI.out.2.1 HI.out.2.2).mono ?_
      rintro e wL ⟨rfl, hb2'⟩
      have hbL : Below w.heap.size w wL := bnext b1' hb2'
      have HOL := Lib.hid (HO1.out.below hb2')
      have hsL : w.heap.size ≤ wL.heap.size := hbL.size
      go_wp2_with fail
      refine hK.out _ _ (⟨(hbL.cell hbB).trans p0, (hbL.cell hbB).trans p1⟩) (fun hHeld => ?_)
      clear hK K
      try simp only [Act.put, List.setIfInBounds_toArray, List.set_cons_zero, List.set_cons_succ]
      refine wpAnyH_take (i := 14) (oi := { dst := some 26, op := Op.binOp BinOp.add 9 (Operand.tmp 19) (Operand.tmp 25) 9, type := 9, pos := "l03_codec.go:8", after := #[{ on := 7, ground := Ground.data }, { on := 13, ground := Ground.data }], guard := none }) (v := ?vc14) rfl (by kernel_rfl) (by kernel_rfl) (by kernel_rfl) (fun _ _ _ h => h) (Or.inl ⟨by rfl, ?hyc14⟩) (by assumption) ?restc14
      case hyc14 => intro w hSw; (try dsimp only at hSw); (first | (go_simp; done) | (go_simp; with_reducible rfl) | (with_reducible rfl))
      try simp only [Act.put, List.setIfInBounds_toArray, List.set_cons_zero, List.set_cons_succ]
      refine wpAnyH_ready (rs := [15]) (by kernel_rfl) (by simp) ?_
      refine AllReadyH.cons (o := { dst := some 27, op := Op.buildSlice 106 1 #[(0, Operand.tmp 26)], type := 106, pos := "l03_codec.go:8", after := #[{ on := 14, ground := Ground.data }], guard := none }) rfl (fun K hK => ?_) AllReadyH.nil
      go_simp
      have hb4 : Below w.heap.size w (wL.alloc (.cells #[.string (samT xs[j])] 9)) := bal hbL _
      have HN := Lib.hid (new_txt wL (samT xs[j]) 9)
      have HO4 := Lib.hid (HOL.out.below (bal (Below.refl _ wL) (.cells #[.string (samT xs[j])] 9)))
      refine hK.out _ _ (⟨(hb4.cell hbB).trans p0, (hb4.cell hbB).trans p1⟩) (fun hHeld => ?_)
      clear hK K
      try simp only [Act.put, List.setIfInBounds_toArray, List.set_cons_zero, List.set_cons_succ]
      refine wpAnyH_ready (rs := [16]) (by kernel_rfl) (by simp) ?_
      refine AllReadyH.cons (o := { dst := some 28, op := Op.call { callee := Callee.builtin Builtin.append, args := #[Operand.tmp 12, Operand.tmp 27], argTypes := #[106, 106] }, type := 106, pos := "l03_codec.go:8", after := #[{ on := 0, ground := Ground.data }, { on := 15, ground := Ground.data }, { on := 13, ground := Ground.chain }], guard := none }) rfl (fun K hK => ?_) AllReadyH.nil
      refine step_append_sl txV 1 16 (fun _ => rfl) txV_one 106 9 _ infoStr rfl (by omega) Tryd.underlying106 rfl _ _ rfl w.heap.size ys [samT xs[j]] (.slice A j c2) rfl HO4.out (some ⟨wL.heap.size, 0, none⟩) 1 (wL.heap.size + 1) rfl HN.out (by simp [maxLen]; omega) (by simp; omega) (by simp; omega) ?_
      intro v' w5 hO5 hg5
      obtain ⟨A5, c5, rfl⟩ := hO5.form
      have HO5 := Lib.hid hO5; clear hO5
      have hb5 : Below w.heap.size w w5 := hb4.trans (below_of_grown hg5 (by simp; omega) (fun g e => (World.ownsRow.lt HO4.out g e).1))
      refine hK.out _ _ (⟨(hb5.cell hbB).trans p0, (hb5.cell hbB).trans p1⟩) (fun hHeld => ?_)
      clear hK K
      try simp only [Act.put, List.setIfInBounds_toArray, List.set_cons_zero, List.set_cons_succ]
      refine wpAnyH_take (i := 17) (oi := { dst := some 3, op := Op.assign (Operand.tmp 28), type := 106, pos := "l03_codec.go:8", after := #[{ on := 16, ground := Ground.data }, { on := 16, ground := Ground.chain }, { on := 0, ground := Ground.phase }, { on := 1, ground := Ground.phase }, { on := 2, ground := Ground.phase }, { on := 3, ground := Ground.phase }, { on := 4, ground := Ground.phase }, { on := 5, ground := Ground.phase }, { on := 6, ground := Ground.phase }, { on := 7, ground := Ground.phase }, { on := 8, ground := Ground.phase }, { on := 9, ground := Ground.phase }, { on := 10, ground := Ground.phase }, { on := 11, ground := Ground.phase }, { on := 12, ground := Ground.phase }, { on := 13, ground := Ground.phase }, { on := 14, ground := Ground.phase }, { on := 15, ground := Ground.phase }, { on := 16, ground := Ground.phase }], guard := none }) (v := ?vc17) rfl (by kernel_rfl) (by kernel_rfl) (by kernel_rfl) (fun _ _ _ h => h) (Or.inl ⟨by rfl, ?hyc17⟩) (by assumption) ?restc17
      case hyc17 => intro w hSw; (try dsimp only at hSw); (first | (go_simp; done) | (go_simp; with_reducible rfl) | (with_reducible rfl))
      try simp only [Act.put, List.setIfInBounds_toArray, List.set_cons_zero, List.set_cons_succ]
      refine wpAnyH_done (by kernel_rfl) ?_ _
      refine NoPanic.normal ?_
      have hO6 : OwnSl txV 1 9 w.heap.size w5 (.slice A5 (j + 1) c5) ((xs.take (j + 1)).map samT) := by
        rw [EN.out]
        have := HO5.out
        simpa [hyl] using this
      have HO6 := Lib.hid hO6; clear hO6
      clear hHeld
      go_wp2
      go_roundw
      case rel => exact ⟨j + 1, A5, c5, by omega, by go_num, by simp [hyl], HO6, hb5⟩
      case measure => simp [intOf]; omega
    · obtain rfl : j = xs.length := by omega
      have hO := HO.out
      rw [List.take_length] at hO
      have hl2 : xs.length = (xs.map samT).length := by simp
      rw [hl2] at hO
      obtain ⟨hsl, _, _, _⟩ := OwnSl.sl hO (fun x => rfl)
      have hz : (joinT (xs.map samT) blank).size ≤ 4611686018427387904 := by
        have := joinT_size blank 1000 (xs.map samT) (fun x hx => by
          obtain ⟨n, hn, rfl⟩ := List.mem_map.1 hx
          exact Nat.le_trans (samT_size (Hf.out n hn)) (by omega))
        rw [List.length_map, blank_size] at this
        omega
      have hjn := joinA_any A c2 (xs.map samT) blank _ wr hsl (Nat.le_refl _) (by simp; omega) hz
      rw [← hl2] at hjn
      obtain ⟨J, hJ⟩ : ∃ J, J = joinT (xs.map samT) blank := ⟨_, rfl⟩
      rw [← hJ] at hjn
      have HJ := Lib.hid hJ; clear hJ
      have Hj := Lib.hid hjn; clear hjn hz hsl hO HO hl2
      go_wp2_with fail
      refine Hj.out.mono ?_
      rintro e w1 ⟨rfl, hb2⟩
      go_wp2
      go_ret
      exact ⟨by rw [← HJ.out]; rfl, bnext hb hb2⟩

set_option maxRecDepth 100000 in
theorem specSamplesText_any (A : Option Addr) (c : Nat) (xs : List GSam) (B : Nat) (w : World) (h : SamsAt w B A xs) (hB : B ≤ w.heap.size) (hl : xs.length ≤ 1048576) (hf : ∀ x ∈ xs, GSam.fit x) :
    Calls Tryd.prog 19 #[.slice A xs.length c] w fun e w' => ∃ s cd, e = .returned (.tuple #[.string s, .int .i64 cd]) ∧ SamTextOf xs s cd ∧ Below w.heap.size w w' := by
  have H := Lib.hid h; clear h
  have Hf := Lib.hid hf; clear hf
  by_cases h1 : xs.length ≤ 4096
  · have d1 : decide (4096 < (xs.length : Int)) = false := by simp; omega
    go_enter Tryd.func19, Tryd.ntmps19
    go_wp2_with fail
    refine (specSamplesOK_any A c xs B w H.out hB hl).mono ?_
    rintro e w1 ⟨b, hb, rfl, hb1⟩
    cases b
    · have Hn := Lib.hid (show ¬ SamP xs from fun h => by have := hb.2 h; cases this)
      clear hb
      go_wp2
      exact bodyPost_ret (v := .tuple #[.string ⟨#[]⟩, .int .i64 1]) (by simp [results, Tryd.results19, go_sem]) rfl ⟨⟨#[]⟩, 1, rfl, Or.inr (Or.inl ⟨h1, Hn.out, rfl, rfl⟩), hb1⟩
    have Hp := Lib.hid (hb.1 rfl); clear hb
    by_cases h2 : xs.length ≤ 8
    · have d2 : decide (8 < (xs.length : Int)) = false := by simp; omega
      go_wp2_with fail
      refine (l03Samples_any A c xs B w1 (Sl.below H.out hb1 hB) (Nat.le_trans hB hb1.size) (by omega) Hf.out).mono ?_
      rintro e w2 ⟨rfl, hb2⟩
      obtain ⟨J, hJ⟩ : ∃ J, J = joinT (xs.map samT) blank := ⟨_, rfl⟩
      rw [← hJ]
      have HJ := Lib.hid hJ; clear hJ
      go_wp2
      exact bodyPost_ret (v := .tuple #[.string J, .int .i64 0]) (by simp [results, Tryd.results19, go_sem]) rfl ⟨J, 0, rfl, Or.inr (Or.inr (Or.inr ⟨Hp.out, h2, HJ.out, rfl⟩)), bnext hb1 hb2⟩
    · have d2 : decide (8 < (xs.length : Int)) = true := by simp; omega
      go_wp2
      exact bodyPost_ret (v := .tuple #[.string ⟨#[]⟩, .int .i64 6]) (by simp [results, Tryd.results19, go_sem]) rfl ⟨⟨#[]⟩, 6, rfl, Or.inr (Or.inr (Or.inl ⟨Hp.out, h2, rfl, rfl⟩)), hb1⟩
  · have d1 : decide (4096 < (xs.length : Int)) = true := by simp; omega
    go_enter Tryd.func19, Tryd.ntmps19
    go_wp2
    exact bodyPost_ret (v := .tuple #[.string ⟨#[]⟩, .int .i64 2]) (by simp [results, Tryd.results19, go_sem]) rfl ⟨⟨#[]⟩, 2, rfl, Or.inl ⟨h1, rfl, rfl⟩, Below.refl _ _⟩

end Go.Proofs.YtcocgocnffnkpaaDoor
