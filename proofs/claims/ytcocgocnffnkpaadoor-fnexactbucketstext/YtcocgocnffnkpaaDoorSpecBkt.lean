/-
  Contracts of the model's l03Buckets and BucketsText. Conditions: none beside lengths.
-/
import Derived.Test.YtcocgocnffnkpaaDoorBktTxt
import Derived.Test.YtcocgocnffnkpaaDoorSpecTxt
namespace Go.Proofs.YtcocgocnffnkpaaDoor
open Go.ChangeShapes Go.WideShapes Go.ChangeAt Go.RowKit
set_option linter.unusedVariables false
set_option linter.unusedSimpArgs false

theorem l02Text_T (a : GAgg) (ha : a.fit) (w : World) : Calls Tryd.prog 41 #[.agg #[.int .i64 a.cnt, .int .i64 a.sum, .int .i64 a.mn, .int .i64 a.mx, .int .i64 a.fst, .int .i64 a.lst]] w fun e w' => e = .returned (.string (aggT a)) ∧ Below w.heap.size w w' := l02Text_any a ha w

set_option maxRecDepth 100000 in
set_option maxHeartbeats 1000000 in
theorem l03Buckets_any (A : Option Addr) (c : Nat) (xs : List GBkt) (B : Nat) (w : World) (h : BktsAt w B A xs) (hB : B ≤ w.heap.size) (hl : xs.length ≤ 1000) (hf : ∀ x ∈ xs, BktC x) :
    Calls Tryd.prog 56 #[.slice A xs.length c] w fun e w' => e = .returned (.string (joinT (xs.map bktT) blank)) ∧ Below w.heap.size w w' := by
  have H := Lib.hid h; clear h
  have Hf := Lib.hid hf; clear hf
  go_enter Tryd.func56, Tryd.ntmps56
  go_wp2_with fail
  have o0 : OwnSl txV 1 9 w.heap.size (w.alloc (.cells #[] 9)) (.slice (some ⟨w.heap.size, 0, none⟩) 0 0) [] := own_empty _ _ _ w
  have hbw : Below w.heap.size w (w.alloc (.cells #[] 9)) := bal (Below.refl _ _) _
  generalize w.alloc (.cells #[] 9) = w0 at o0 hbw ⊢
  have O0 := Lib.hid o0; clear o0
  go_loopw [3, 4] (fun s i wr => ∃ (j : Nat) (A : Option Addr) (c : Nat), j ≤ xs.length ∧ i = .int .i64 j ∧ s = .slice A j c ∧ Hid (OwnSl txV 1 9 w.heap.size wr (.slice A j c) ((xs.take j).map bktT)) ∧ Below w.heap.size w wr) (fun _ i _ => xs.length - (intOf i).toNat)
  case atStart => exact ⟨0, _, _, by omega, rfl, rfl, O0, hbw⟩
  case round =>
    clear O0 hbw
    obtain ⟨j, A, c2, hj, rfl, rfl, HO, hb⟩ := hrel
    by_cases hlt : j < xs.length
    · obtain ⟨b1, o1, rfl, hb1, p0, p1, p2, p3, p4, p5, p6⟩ := BktsAt.bkt H.out hlt
      have hbB : b1 < w.heap.size := by omega
      have HI := Lib.hid (Hf.out _ (List.getElem_mem hlt))
      have en : (xs.take (j + 1)).map bktT = (xs.take j).map bktT ++ [bktT xs[j]] := by rw [List.take_succ_eq_append_getElem hlt, List.map_append]; rfl
      have EN := Lib.hid en; clear en
      obtain ⟨ys, hys⟩ : ∃ ys, ys = (xs.take j).map bktT := ⟨_, rfl⟩
      have hyl : ys.length = j := by rw [hys]; simp; omega
      have HO' := HO.out
      rw [← hys] at EN HO'
      clear HO hys
      have HOr := Lib.hid HO'; clear HO'
      have z1 := numT_le HI.out.1.1.1 HI.out.1.1.2
      have z2 := aggT_size HI.out.1.2
      have z3 : ¬ 9223372036854775807 < (numT xs[j].beg).size + 1 := by omega
      have z4 : ¬ 9223372036854775807 < (numT xs[j].beg).size + 1 + (aggT xs[j].agg).size := by omega
      have eT : numT xs[j].beg ++ ⟨#[58]⟩ ++ aggT xs[j].agg = bktT xs[j] := rfl
      have j0 : (0 : Int) ≤ (j : Int) := by omega
      have j1 : (j : Int) < (xs.length : Int) := by omega
      go_wp2_with fail
      refine wp_region_noPanic ?_
      refine wp_region_held_drew (S := (fun w' => w'.cell? ⟨b1, o1 + j * 7, none⟩ = some (.int .i64 xs[j].beg) ∧ w'.cell? ⟨b1, o1 + j * 7 + 1, none⟩ = some (.int .i64 xs[j].agg.cnt) ∧ w'.cell? ⟨b1, o1 + j * 7 + 2, none⟩ = some (.int .i64 xs[j].agg.sum) ∧ w'.cell? ⟨b1, o1 + j * 7 + 3, none⟩ = some (.int .i64 xs[j].agg.mn) ∧ w'.cell? ⟨b1, o1 + j * 7 + 4, none⟩ = some (.int .i64 xs[j].agg.mx) ∧ w'.cell? ⟨b1, o1 + j * 7 + 5, none⟩ = some (.int .i64 xs[j].agg.fst) ∧ w'.cell? ⟨b1, o1 + j * 7 + 6, none⟩ = some (.int .i64 xs[j].agg.lst))) (by kernel_rfl) (⟨(hb.drew.cell hbB).trans p0, (hb.drew.cell hbB).trans p1, (hb.drew.cell hbB).trans p2, (hb.drew.cell hbB).trans p3, (hb.drew.cell hbB).trans p4, (hb.drew.cell hbB).trans p5, (hb.drew.cell hbB).trans p6⟩) (fun hHeld => ?_)
      refine wpAnyH_take (i := 0) (oi := { dst := some 12, op := Op.move (Operand.tmp 3), type := 106, pos := "l03_codec.go:73", after := #[], guard := none }) (v := ?vb0) rfl (by kernel_rfl) (by kernel_rfl) (by kernel_rfl) (fun _ _ _ h => h) (Or.inl ⟨by rfl, ?hyb0⟩) (by assumption) ?restb0
      case hyb0 => intro w hSw; (try dsimp only at hSw); (first | (go_simp; done) | (go_simp; with_reducible rfl) | (with_reducible rfl))
      try simp only [Act.put, List.setIfInBounds_toArray, List.set_cons_zero, List.set_cons_succ]
      refine wpAnyH_take (i := 1) (oi := { dst := some 13, op := Op.move (Operand.tmp 0), type := 51, pos := "l03_codec.go:73", after := #[], guard := none }) (v := ?vb1) rfl (by kernel_rfl) (by kernel_rfl) (by kernel_rfl) (fun _ _ _ h => h) (Or.inl ⟨by rfl, ?hyb1⟩) (by assumption) ?restb1
      case hyb1 => intro w hSw; (try dsimp only at hSw); (first | (go_simp; done) | (go_simp; with_reducible rfl) | (with_reducible rfl))
      try simp only [Act.put, List.setIfInBounds_toArray, List.set_cons_zero, List.set_cons_succ]
      refine wpAnyH_take (i := 2) (oi := { dst := some 14, op := Op.move (Operand.tmp 4), type := 3, pos := "l03_codec.go:73", after := #[], guard := none }) (v := ?vb2) rfl (by kernel_rfl) (by kernel_rfl) (by kernel_rfl) (fun _ _ _ h => h) (Or.inl ⟨by rfl, ?hyb2⟩) (by assumption) ?restb2
      case hyb2 => intro w hSw; (try dsimp only at hSw); (first | (go_simp; done) | (go_simp; with_reducible rfl) | (with_reducible rfl))
      try simp only [Act.put, List.setIfInBounds_toArray, List.set_cons_zero, List.set_cons_succ]
      refine wpAnyH_take (i := 3) (oi := { dst := some 15, op := Op.indexAddr 51 (Operand.tmp 13) (Operand.tmp 14), type := 0, pos := "l03_codec.go:73", after := #[{ on := 1, ground := Ground.data }, { on := 2, ground := Ground.data }], guard := none }) (v := ?vb3) rfl (by kernel_rfl) (by kernel_rfl) (by kernel_rfl) (fun _ _ _ h => h) (Or.inl ⟨by rfl, ?hyb3⟩) (by assumption) ?restb3
      case hyb3 => intro w hSw; (try dsimp only at hSw); (first | (go_simp; done) | (go_simp; with_reducible rfl) | (with_reducible rfl))
      try simp only [Act.put, List.setIfInBounds_toArray, List.set_cons_zero, List.set_cons_succ]
      refine wpAnyH_take (i := 4) (oi := { dst := some 16, op := Op.fieldAddr 87 (Operand.tmp 15) 0, type := 0, pos := "l03_codec.go:73", after := #[{ on := 3, ground := Ground.data }], guard := none }) (v := ?vb4) rfl (by kernel_rfl) (by kernel_rfl) (by kernel_rfl) (fun _ _ _ h => h) (Or.inl ⟨by rfl, ?hyb4⟩) (by assumption) ?restb4
      case hyb4 => intro w hSw; (try dsimp only at hSw); (first | (go_simp; done) | (go_simp; with_reducible rfl) | (with_reducible rfl))
      try simp only [Act.put, List.setIfInBounds_toArray, List.set_cons_zero, List.set_cons_succ]
      refine wpAnyH_take (i := 5) (oi := { dst := some 17, op := Op.load 3 (Operand.tmp 16), type := 3, pos := "l03_codec.go:73", after := #[{ on := 4, ground := Ground.data }], guard := none }) (v := ?vb5) rfl (by kernel_rfl) (by kernel_rfl) (by kernel_rfl) (fun _ _ _ h => h) (Or.inl ⟨by rfl, ?hyb5⟩) (by assumption) ?restb5
      case hyb5 => intro w hSw; (try dsimp only at hSw); (first | (go_simp; done) | (go_simp; with_reducible rfl) | (with_reducible rfl))
      try simp only [Act.put, List.setIfInBounds_toArray, List.set_cons_zero, List.set_cons_succ]
      refine wpAnyH_take (i := 8) (oi := { dst := some 20, op := Op.move (Operand.tmp 0), type := 51, pos := "l03_codec.go:73", after := #[], guard := none }) (v := ?vb8) rfl (by kernel_rfl) (by kernel_rfl) (by kernel_rfl) (fun _ _ _ h => h) (Or.inl ⟨by rfl, ?hyb8⟩) (by assumption) ?restb8
      case hyb8 => intro w hSw; (try dsimp only at hSw); (first | (go_simp; done) | (go_simp; with_reducible rfl) | (with_reducible rfl))
      try simp only [Act.put, List.setIfInBounds_toArray, List.set_cons_zero, List.set_cons_succ]
      refine wpAnyH_take (i := 9) (oi := { dst := some 21, op := Op.move (Operand.tmp 4), type := 3, pos := "l03_codec.go:73", after := #[], guard := none }) (v := ?vb9) rfl (by kernel_rfl) (by kernel_rfl) (by kernel_rfl) (fun _ _ _ h => h) (Or.inl ⟨by rfl, ?hyb9⟩) (by assumption) ?restb9
      case hyb9 => intro w hSw; (try dsimp only at hSw); (first | (go_simp; done) | (go_simp; with_reducible rfl) | (with_reducible rfl))
      try simp only [Act.put, List.setIfInBounds_toArray, List.set_cons_zero, List.set_cons_succ]
      refine wpAnyH_take (i := 10) (oi := { dst := some 22, op := Op.indexAddr 51 (Operand.tmp 20) (Operand.tmp 21), type := 0, pos := "l03_codec.go:73", after := #[{ on := 8, ground := Ground.data }, { on := 9, ground := Ground.data }], guard := none }) (v := ?vb10) rfl (by kernel_rfl) (by kernel_rfl) (by kernel_rfl) (fun _ _ _ h => h) (Or.inl ⟨by rfl, ?hyb10⟩) (by assumption) ?restb10
      case hyb10 => intro w hSw; (try dsimp only at hSw); (first | (go_simp; done) | (go_simp; with_reducible rfl) | (with_reducible rfl))
      try simp only [Act.put, List.setIfInBounds_toArray, List.set_cons_zero, List.set_cons_succ]
      refine wpAnyH_take (i := 11) (oi := { dst := some 23, op := Op.fieldAddr 87 (Operand.tmp 22) 1, type := 0, pos := "l03_codec.go:73", after := #[{ on := 10, ground := Ground.data }], guard := none }) (v := ?vb11) rfl (by kernel_rfl) (by kernel_rfl) (by kernel_rfl) (fun _ _ _ h => h) (Or.inl ⟨by rfl, ?hyb11⟩) (by assumption) ?restb11
      case hyb11 => intro w hSw; (try dsimp only at hSw); (first | (go_simp; done) | (go_simp; with_reducible rfl) | (with_reducible rfl))
      try simp only [Act.put, List.setIfInBounds_toArray, List.set_cons_zero, List.set_cons_succ]
      refine wpAnyH_take (i := 12) (oi := { dst := some 24, op := Op.load 24 (Operand.tmp 23), type := 24, pos := "l03_codec.go:73", after := #[{ on := 11, ground := Ground.data }], guard := none }) (v := ?vb12) rfl (by kernel_rfl) (by kernel_rfl) (by kernel_rfl) (fun _ _ _ h => h) (Or.inl ⟨by rfl, ?hyb12⟩) (by assumption) ?restb12
      case hyb12 => intro w hSw; (try dsimp only at hSw); (first | (go_simp; done) | (go_simp; with_reducible rfl) | (with_reducible rfl))
      try simp only [Act.put, List.setIfInBounds_toArray, List.set_cons_zero, List.set_cons_succ]
      refine wpAnyH_ready (rs := [6]) (by kernel_rfl) (by simp) ?_
      refine AllReadyH.cons (o := { dst := some 18, op := Op.call { callee := Callee.value (Operand.func 78), args := #[Operand.tmp 17], argTypes := #[3] }, type := 9, pos := "l03_codec.go:73", after := #[{ on := 5, ground := Ground.data }], guard := none }) rfl (fun K hK => ?_) AllReadyH.nil
      go_simp
      refine (digits_int xs[j].beg wr.drew HI.out.1.1.1 HI.out.1.1.2).mono ?_
      rintro e w1 ⟨rfl, hb1'⟩
      have b1' : Below w.heap.size w w1 := bnext hb.drew hb1'
      have HO1 := Lib.hid ((HOr.out.below (Below.refl _ wr).drew).below hb1')
      go_wp2_with fail
      refine hK.out _ _ (⟨(b1'.cell hbB).trans p0, (b1'.cell hbB).trans p1, (b1'.cell hbB).trans p2, (b1'.cell hbB).trans p3, (b1'.cell hbB).trans p4, (b1'.cell hbB).trans p5, (b1'.cell hbB).trans p6⟩) (fun hHeld => ?_)
      clear hK K
      try simp only [Act.put, List.setIfInBounds_toArray, List.set_cons_zero, List.set_cons_succ]
      refine wpAnyH_take (i := 7) (oi := { dst := some 19, op := Op.binOp BinOp.add 9 (Operand.tmp 18) (Operand.const (Value.string { data := #[58] })) 9, type := 9, pos := "l03_codec.go:73", after := #[{ on := 6, ground := Ground.data }], guard := none }) (v := ?vb7) rfl (by kernel_rfl) (by kernel_rfl) (by kernel_rfl) (fun _ _ _ h => h) (Or.inl ⟨by rfl, ?hyb7⟩) (by assumption) ?restb7
      case hyb7 => intro w hSw; (try dsimp only at hSw); (first | (go_simp; done) | (go_simp; with_reducible rfl) | (with_reducible rfl))
      try simp only [Act.put, List.setIfInBounds_toArray, List.set_cons_zero, List.set_cons_succ]
      refine wpAnyH_ready (rs := [13]) (by kernel_rfl) (by simp) ?_
      refine AllReadyH.cons (o := { dst := some 25, op := Op.call { callee := Callee.value (Operand.func 41), args := #[Operand.tmp 24], argTypes := #[24] }, type := 9, pos := "l03_codec.go:73", after := #[{ on := 12, ground := Ground.data }, { on := 6, ground := Ground.chain }], guard := none }) rfl (fun K hK => ?_) AllReadyH.nil
      go_simp
      refine (l02Text_T xs[j].agg HI.out.1.2 w1).mono ?_
      rintro e wL ⟨rfl, hb2'⟩
      have hbL : Below w.heap.size w wL := bnext b1' hb2'
      have HOL := Lib.hid (HO1.out.below hb2')
      have hsL : w.heap.size ≤ wL.heap.size := hbL.size
      go_wp2_with fail
      refine hK.out _ _ (⟨(hbL.cell hbB).trans p0, (hbL.cell hbB).trans p1, (hbL.cell hbB).trans p2, (hbL.cell hbB).trans p3, (hbL.cell hbB).trans p4, (hbL.cell hbB).trans p5, (hbL.cell hbB).trans p6⟩) (fun hHeld => ?_)
      clear hK K
      try simp only [Act.put, List.setIfInBounds_toArray, List.set_cons_zero, List.set_cons_succ]
      refine wpAnyH_take (i := 14) (oi := { dst := some 26, op := Op.binOp BinOp.add 9 (Operand.tmp 19) (Operand.tmp 25) 9, type := 9, pos := "l03_codec.go:73", after := #[{ on := 7, ground := Ground.data }, { on := 13, ground := Ground.data }], guard := none }) (v := ?vb14) rfl (by kernel_rfl) (by kernel_rfl) (by kernel_rfl) (fun _ _ _ h => h) (Or.inl ⟨by rfl, ?hyb14⟩) (by assumption) ?restb14
      case hyb14 => intro w hSw; (try dsimp only at hSw); (first | (go_simp; done) | (go_simp; with_reducible rfl) | (with_reducible rfl))
      try simp only [Act.put, List.setIfInBounds_toArray, List.set_cons_zero, List.set_cons_succ]
      refine wpAnyH_ready (rs := [15]) (by kernel_rfl) (by simp) ?_
      refine AllReadyH.cons (o := { dst := some 27, op := Op.buildSlice 106 1 #[(0, Operand.tmp 26)], type := 106, pos := "l03_codec.go:73", after := #[{ on := 14, ground := Ground.data }], guard := none }) rfl (fun K hK => ?_) AllReadyH.nil
      go_simp
      have hb4 : Below w.heap.size w (wL.alloc (.cells #[.string (bktT xs[j])] 9)) := bal hbL _
      have HN := Lib.hid (new_txt wL (bktT xs[j]) 9)
      have HO4 := Lib.hid (HOL.out.below (bal (Below.refl _ wL) (.cells #[.string (bktT xs[j])] 9)))
      refine hK.out _ _ (⟨(hb4.cell hbB).trans p0, (hb4.cell hbB).trans p1, (hb4.cell hbB).trans p2, (hb4.cell hbB).trans p3, (hb4.cell hbB).trans p4, (hb4.cell hbB).trans p5, (hb4.cell hbB).trans p6⟩) (fun hHeld => ?_)
      clear hK K
      try simp only [Act.put, List.setIfInBounds_toArray, List.set_cons_zero, List.set_cons_succ]
      refine wpAnyH_ready (rs := [16]) (by kernel_rfl) (by simp) ?_
      refine AllReadyH.cons (o := { dst := some 28, op := Op.call { callee := Callee.builtin Builtin.append, args := #[Operand.tmp 12, Operand.tmp 27], argTypes := #[106, 106] }, type := 106, pos := "l03_codec.go:73", after := #[{ on := 0, ground := Ground.data }, { on := 15, ground := Ground.data }, { on := 13, ground := Ground.chain }], guard := none }) rfl (fun K hK => ?_) AllReadyH.nil
      refine step_append_sl txV 1 16 (fun _ => rfl) txV_one 106 9 _ infoStr rfl (by omega) Tryd.underlying106 rfl _ _ rfl w.heap.size ys [bktT xs[j]] (.slice A j c2) rfl HO4.out (some ⟨wL.heap.size, 0, none⟩) 1 (wL.heap.size + 1) rfl HN.out (by simp [maxLen]; omega) (by simp; omega) (by simp; omega) ?_
      intro v' w5 hO5 hg5
      obtain ⟨A5, c5, rfl⟩ := hO5.form
      have HO5 := Lib.hid hO5; clear hO5
      have hb5 : Below w.heap.size w w5 := hb4.trans (below_of_grown hg5 (by simp; omega) (fun g e => (World.ownsRow.lt HO4.out g e).1))
      refine hK.out _ _ (⟨(hb5.cell hbB).trans p0, (hb5.cell hbB).trans p1, (hb5.cell hbB).trans p2, (hb5.cell hbB).trans p3, (hb5.cell hbB).trans p4, (hb5.cell hbB).trans p5, (hb5.cell hbB).trans p6⟩) (fun hHeld => ?_)
      clear hK K
      try simp only [Act.put, List.setIfInBounds_toArray, List.set_cons_zero, List.set_cons_succ]
      refine wpAnyH_take (i := 17) (oi := { dst := some 3, op := Op.assign (Operand.tmp 28), type := 106, pos := "l03_codec.go:73", after := #[{ on := 16, ground := Ground.data }, { on := 16, ground := Ground.chain }, { on := 0, ground := Ground.phase }, { on := 1, ground := Ground.phase }, { on := 2, ground := Ground.phase }, { on := 3, ground := Ground.phase }, { on := 4, ground := Ground.phase }, { on := 5, ground := Ground.phase }, { on := 6, ground := Ground.phase }, { on := 7, ground := Ground.phase }, { on := 8, ground := Ground.phase }, { on := 9, ground := Ground.phase }, { on := 10, ground := Ground.phase }, { on := 11, ground := Ground.phase }, { on := 12, ground := Ground.phase }, { on := 13, ground := Ground.phase }, { on := 14, ground := Ground.phase }, { on := 15, ground := Ground.phase }, { on := 16, ground := Ground.phase }], guard := none }) (v := ?vb17) rfl (by kernel_rfl) (by kernel_rfl) (by kernel_rfl) (fun _ _ _ h => h) (Or.inl ⟨by rfl, ?hyb17⟩) (by assumption) ?restb17
      case hyb17 => intro w hSw; (try dsimp only at hSw); (first | (go_simp; done) | (go_simp; with_reducible rfl) | (with_reducible rfl))
      try simp only [Act.put, List.setIfInBounds_toArray, List.set_cons_zero, List.set_cons_succ]
      refine wpAnyH_done (by kernel_rfl) ?_ _
      refine NoPanic.normal ?_
      have hO6 : OwnSl txV 1 9 w.heap.size w5 (.slice A5 (j + 1) c5) ((xs.take (j + 1)).map bktT) := by
        rw [EN.out]
        have := HO5.out
        simpa [hyl] using this
      have HO6 := Lib.hid hO6; clear hO6
      clear hHeld
      go_wp2
      go_roundw
      case rel => exact ⟨j + 1, A5, c5, by omega, by go_num, by simp [hyl], HO6, hb5⟩
      case measure => simp [intOf]; omega
    · obtain rfl : j = xs.length := by omega
      have hO := HO.out
      rw [List.take_length] at hO
      have hl2 : xs.length = (xs.map bktT).length := by simp
      rw [hl2] at hO
      obtain ⟨hsl, _, _, _⟩ := OwnSl.sl hO (fun x => rfl)
      have hz : (joinT (xs.map bktT) blank).size ≤ 4611686018427387904 := by
        have := joinT_size blank 1000 (xs.map bktT) (fun x hx => by
          obtain ⟨n, hn, rfl⟩ := List.mem_map.1 hx
          exact Nat.le_trans (bktT_size (Hf.out n hn)) (by omega))
        rw [List.length_map, blank_size] at this
        omega
      have hjn := joinA_any A c2 (xs.map bktT) blank _ wr hsl (Nat.le_refl _) (by simp; omega) hz
      rw [← hl2] at hjn
      obtain ⟨J, hJ⟩ : ∃ J, J = joinT (xs.map bktT) blank := ⟨_, rfl⟩
      rw [← hJ] at hjn
      have HJ := Lib.hid hJ; clear hJ
      have Hj := Lib.hid hjn; clear hjn hz hsl hO HO hl2
      go_wp2_with fail
      refine Hj.out.mono ?_
      rintro e w1 ⟨rfl, hb2⟩
      go_wp2
      go_ret
      exact ⟨by rw [← HJ.out]; rfl, bnext hb hb2⟩

set_option maxRecDepth 100000 in
theorem specBucketsText_any (A : Option Addr) (c : Nat) (xs : List GBkt) (B : Nat) (w : World) (h : BktsAt w B A xs) (hB : B ≤ w.heap.size) (hl : xs.length ≤ 1048576) (hf : ∀ x ∈ xs, GBkt.fit x) :
    Calls Tryd.prog 28 #[.slice A xs.length c] w fun e w' => ∃ s cd, e = .returned (.tuple #[.string s, .int .i64 cd]) ∧ BktTextOf xs s cd ∧ Below w.heap.size w w' := by
  have H := Lib.hid h; clear h
  have Hf := Lib.hid hf; clear hf
  by_cases h1 : xs.length ≤ 4096
  · have d1 : decide (4096 < (xs.length : Int)) = false := by simp; omega
    go_enter Tryd.func28, Tryd.ntmps28
    go_wp2_with fail
    refine (specBucketsOK_any A c xs B w H.out hB hl).mono ?_
    rintro e w1 ⟨b, hb, rfl, hb1⟩
    cases b
    · have Hn := Lib.hid (show ¬ BktP xs from fun h => by have := hb.2 h; cases this)
      clear hb
      go_wp2
      exact bodyPost_ret (v := .tuple #[.string ⟨#[]⟩, .int .i64 1]) (by simp [results, Tryd.results28, go_sem]) rfl ⟨⟨#[]⟩, 1, rfl, Or.inr (Or.inl ⟨h1, Hn.out, rfl, rfl⟩), hb1⟩
    have Hp := Lib.hid (hb.1 rfl); clear hb
    have h8 := Hp.out.1
    go_wp2_with fail
    refine (l03Buckets_any A c xs B w1 (Sl.below H.out hb1 hB) (Nat.le_trans hB hb1.size) (by omega) (bktC_of Hp.out Hf.out)).mono ?_
    rintro e w2 ⟨rfl, hb2⟩
    obtain ⟨J, hJ⟩ : ∃ J, J = joinT (xs.map bktT) blank := ⟨_, rfl⟩
    rw [← hJ]
    have HJ := Lib.hid hJ; clear hJ
    go_wp2
    exact bodyPost_ret (v := .tuple #[.string J, .int .i64 0]) (by simp [results, Tryd.results28, go_sem]) rfl ⟨J, 0, rfl, Or.inr (Or.inr ⟨Hp.out, HJ.out, rfl⟩), bnext hb1 hb2⟩
  · have d1 : decide (4096 < (xs.length : Int)) = true := by simp; omega
    go_enter Tryd.func28, Tryd.ntmps28
    go_wp2
    exact bodyPost_ret (v := .tuple #[.string ⟨#[]⟩, .int .i64 2]) (by simp [results, Tryd.results28, go_sem]) rfl ⟨⟨#[]⟩, 2, rfl, Or.inl ⟨h1, rfl, rfl⟩, Below.refl _ _⟩

end Go.Proofs.YtcocgocnffnkpaaDoor
