/-
  Contracts of the model's l03ToSamples and ReadSamples: just the text of a batch of right samples is read. Conditions: a text's length.
-/
import Derived.Test.YtpackpocnonpiaaGreatDoorSpecRd
import Derived.Test.YtpackpocnonpiaaGreatDoorSamTxt
import Derived.Test.YtpackpocnonpiaaGreatDoorSrcSam
import Derived.Test.YtpackpocnonpiaaGreatDoorAppS
namespace Go.Proofs.YtpackpocnonpiaaGreatDoor
open Go.ChangeShapes Go.WideShapes Go.ChangeAt Go.RowKit
set_option linter.unusedVariables false
set_option linter.unusedSimpArgs false

/-- a text is that of these samples -/
def SamOf (t : ByteArray) (xs : List GSam) : Prop := (xs = [] ∧ t.size = 0) ∨ (xs ≠ [] ∧ Pieces t 32 (xs.map samT))

def SamRead (t : ByteArray) (xs : List GSam) : Prop := SamP xs ∧ xs.length ≤ 8 ∧ SamOf t xs

def NoSam (t : ByteArray) : Prop := ∀ xs, ¬ SamRead t xs

theorem eq_no : NoNum 61 := Or.inr (Or.inl (by decide))

theorem samT_nums (s : GSam) : NumsOf (samT s) 61 [s.t, s.v] := ⟨[numT s.t], numT s.v, rfl, by simp [samT, flatC, ByteArray.data_append]⟩

theorem samT_of {x : ByteArray} {n0 n1 : Int} (h : NumsOf x 61 [n0, n1]) : x = samT ⟨n0, n1⟩ := by
  obtain ⟨ps, last, e, h⟩ := h
  match ps, e with
  | [p], e =>
    simp at e
    obtain ⟨rfl, rfl⟩ := e
    apply ByteArray.ext
    apply Array.toList_inj.1
    rw [h]
    simp [samT, flatC, ByteArray.data_append]
  | [], e => simp at e
  | p :: q :: r, e => simp at e

theorem samT_blank (s : GSam) : (32 : UInt8) ∉ (samT s).data.toList := by
  intro h
  simp only [samT, ByteArray.data_append, Array.toList_append, List.mem_append] at h
  rcases h with (h | h) | h
  · exact num_nocomma s.t 32 (Or.inl (by decide)) h
  · simp at h
  · exact num_nocomma s.v 32 (Or.inl (by decide)) h

theorem sams_cut {t : ByteArray} {xs : List GSam} {ps : List ByteArray} {last : ByteArray} (h : Pieces t 32 (xs.map samT)) (k : CutOf t 32 ps last) : ps ++ [last] = xs.map samT := by
  obtain ⟨qs, b, e, h⟩ := h
  have hn : ∀ p ∈ qs ++ [b], (32 : UInt8) ∉ p.data.toList := by
    rw [← e]
    intro p hp
    obtain ⟨s, _, rfl⟩ := List.mem_map.1 hp
    exact samT_blank s
  obtain ⟨e1, e2⟩ := CutOf.one (t := t) k ⟨h, fun p hp => hn p (by simp [hp]), hn b (by simp)⟩
  rw [e1, e2, e]

theorem samP_small {xs : List GSam} (h : SamP xs) : ∀ s ∈ xs, Small s.t ∧ Small s.v := by
  intro s hs
  obtain ⟨i, hi, rfl⟩ := List.mem_iff_getElem.1 hs
  have := (h.2 i hi hi).1
  simp [samB, inB] at this
  unfold Small
  omega

theorem grown_step {w1 w4 w5 : World} {x0 : Nat} {row : Option Nat} (h : w1.grownBy w4 (some x0)) (k : w4.grownBy w5 row) (hr : ∀ g, row = some g → g = x0 ∨ w1.heap.size ≤ g) : w1.grownBy w5 (some x0) :=
  ⟨k.os.trans h.os, k.tape.trans h.tape, k.output.trans h.output, Nat.le_trans h.size k.size, fun i hi hne => (k.block i (Nat.lt_of_lt_of_le hi h.size) (fun e => by
    rcases hr i e.symm with h | h
    · exact hne (by rw [h])
    · omega)).trans (h.block i hi hne)⟩

theorem sam_inj : ∀ {xs ys : List GSam}, (∀ s ∈ xs, s.fit) → (∀ s ∈ ys, s.fit) → xs.map samT = ys.map samT → xs = ys
  | [], [], _, _, _ => rfl
  | [], y :: ys, _, _, e => by simp at e
  | x :: xs, [], _, _, e => by simp at e
  | x :: xs, y :: ys, hx, hy, e => by
    simp at e
    have h1 := samT_nums x
    rw [e.1] at h1
    have h2 := nums_one eq_no h1 (samT_nums y) (fun n hn => by
      have := hx x (by simp)
      simp at hn
      rcases hn with rfl | rfl
      · exact this.1
      · exact this.2) (fun n hn => by
      have := hy y (by simp)
      simp at hn
      rcases hn with rfl | rfl
      · exact this.1
      · exact this.2)
    simp at h2
    obtain ⟨x1, x2⟩ := x
    obtain ⟨y1, y2⟩ := y
    simp at h2
    obtain ⟨rfl, rfl⟩ := h2
    have e3 := sam_inj (xs := xs) (ys := ys) (fun s hs => hx s (by simp [hs])) (fun s hs => hy s (by simp [hs])) (by simpa using e.2)
    rw [e3]

theorem no_piece {t : ByteArray} {xs : List GSam} (h0 : t.size = 0) (hn : xs ≠ []) : ¬ Pieces t 32 (xs.map samT) := by
  rintro ⟨ps, last, e, h⟩
  have hl : t.data.toList = [] := List.length_eq_zero_iff.1 (by rw [Array.length_toList]; exact h0)
  rw [hl] at h
  have h2 := congrArg List.length h
  rw [List.length_append] at h2
  have h3 : last ∈ xs.map samT := by rw [e]; simp
  obtain ⟨s, _, rfl⟩ := List.mem_map.1 h3
  have h4 : (samT s).data.toList.length = (numT s.t).data.toList.length + 1 + (numT s.v).data.toList.length := by simp [samT, ByteArray.data_append]; omega
  simp at h2
  simp at h4
  omega

theorem two_list {ns : List Int} (h : ns.length = 2) : ∃ a b, ns = [a, b] := by
  match ns, h with
  | [a, b], _ => exact ⟨a, b, rfl⟩

set_option maxRecDepth 100000 in
set_option maxHeartbeats 1000000 in
theorem toSamples_any (t : ByteArray) (w : World) (ht : t.size ≤ 1000000) : Calls Tryz.prog 81 #[.string t] w fun e w' => ∃ A k xs b, e = .returned (.tuple #[.slice A xs.length k, .bool b]) ∧ ((b = true ∧ SamRead t xs) ∨ (b = false ∧ xs = [] ∧ NoSam t)) ∧ OwnSl GSam.vals 2 142 w.heap.size w' (.slice A xs.length k) xs ∧ Below w.heap.size w w' := by
  by_cases hz : t.size = 0
  · have he : t.toList.isEmpty = true := by rw [ByteArray.toList_eq]; simp; exact Array.eq_empty_of_size_eq_zero hz
    have HR := Lib.hid (show SamRead t [] from ⟨⟨by simp, fun j h => by simp at h⟩, by simp, Or.inl ⟨rfl, hz⟩⟩)
    have HO := Lib.hid (own_empty GSam.vals 2 142 w)
    have hb := bal (Below.refl _ w) (.cells #[] 142)
    go_enter Tryz.func81, Tryz.ntmps81
    go_wp2
    exact bodyPost_ret (v := .tuple #[.slice (some ⟨w.heap.size, 0, none⟩) 0 0, .bool true]) (by simp [results, Tryz.results81, go_sem]) rfl ⟨_, _, [], true, rfl, Or.inl ⟨rfl, HR.out⟩, HO.out, hb⟩
  have he : t.toList.isEmpty = false := by
    rw [ByteArray.toList_eq]
    cases h : t.data.toList.isEmpty
    · rfl
    · exact absurd (by simp at h; rw [ByteArray.size, h]; rfl) hz
  go_enter Tryz.func81, Tryz.ntmps81
  go_wp2_with fail
  have O0 := Lib.hid (own_empty GSam.vals 2 142 w)
  have hb0 : Below w.heap.size w (w.alloc (.cells #[] 142)) := bal (Below.refl _ _) _
  have hs0 : (w.alloc (.cells #[] 142)).heap.size = w.heap.size + 1 := by simp
  generalize w.alloc (.cells #[] 142) = w0 at *
  generalize hx0 : w.heap.size = x0 at *
  have Hx0 := Lib.hid hx0; clear hx0
  refine (l00Cut_any t 32 w0 (by omega)).mono ?_
  rintro e w1 ⟨A1, k1, ps, last, rfl, hO, hC, hb1⟩
  obtain ⟨ws, hws⟩ : ∃ ws, ws = ps ++ [last] := ⟨_, rfl⟩
  have hwl : ps.length + 1 = ws.length := by rw [hws]; simp
  obtain ⟨hz1, hz2⟩ := cut_len hC
  rw [← hws] at hz1
  have hwm : ws.length ≤ 1000001 := by omega
  have hw0 : ws ≠ [] := by rw [hws]; simp
  rw [← hws, hwl] at hO
  have HF := Lib.hid (show (∀ xs, SamRead t xs → ws = xs.map samT) ∧ Pieces t 32 ws from ⟨fun xs h => by
    rcases h.2.2 with ⟨_, h0⟩ | ⟨_, h⟩
    · exact absurd h0 hz
    · rw [hws]; exact sams_cut h hC, by rw [hws]; exact hC.pieces⟩)
  have HZ := Lib.hid hz1; clear hz1
  obtain ⟨hsl, _, hbk, _⟩ := OwnSl.sl hO (fun x => rfl)
  have Hsl := Lib.hid hsl
  have HBk := Lib.hid hbk; clear hsl hO hC hz2 hbk
  have O1 := Lib.hid (O0.out.below hb1)
  have hs1 : w0.heap.size ≤ w1.heap.size := hb1.size
  have hbw : Below x0 w w1 := hb0.trans (hb1.mono (by omega))
  have HW0 := Lib.hid hw0
  rw [hwl]
  clear hws hwl O0 hb1 hb0 hw0 he
  go_wp2_with fail
  go_loopw [4, 6] (fun o i wr => ∃ (A : Option Addr) (k j : Nat) (ss : List GSam), o = .slice A ss.length k ∧ i = .int .i64 j ∧ j ≤ ws.length ∧ Hid (ss.length = j) ∧ Hid (OwnSl GSam.vals 2 142 x0 wr (.slice A ss.length k) ss) ∧ Hid (ws.take j = ss.map samT ∧ ∀ s ∈ ss, s.fit) ∧ Hid (∀ g, blk A = some g → g = x0 ∨ w1.heap.size ≤ g) ∧ Hid (w1.grownBy wr (some x0))) (fun _ i _ => ws.length - (intOf i).toNat)
  case atStart => exact ⟨_, _, 0, [], rfl, rfl, by omega, Lib.hid rfl, O1, Lib.hid ⟨rfl, by simp⟩, Lib.hid (fun g e => by simp [blk] at e; exact Or.inl e.symm), Lib.hid (grown_of_below (Below.refl _ _) _)⟩
  case round =>
    clear O1
    obtain ⟨A, k, j, ss, rfl, rfl, hj, HL, HO, HT, HK, HG⟩ := hrel
    have hsm : ss.length ≤ 1000001 := by have := HL.out; omega
    have hBr : Below x0 w wr := hbw.trans (below_of_grown HG.out (by omega) (fun g e => by injection e with e; omega))
    by_cases hlt : j < ws.length
    · obtain ⟨b, o, rfl, hbb, hcl⟩ := Sl.at_ Hsl.out hlt
      have hbx : b ≠ x0 := by have := (HBk.out b rfl).1; omega
      have p0 : wr.cell? ⟨b, o + j, none⟩ = some (.string ws[j]) := by
        have := hcl 0 (.string ws[j]) rfl
        simp only [Nat.mul_one, Nat.add_zero] at this
        exact (World.cell?_of_block (a := ⟨b, o + j, none⟩) (HG.out.block b hbb (fun e => hbx (by injection e)))).trans this
      have hxz := HZ.out ws[j] (List.getElem_mem hlt)
      have hrd := l02Numbers_any ws[j] 61 2 wr eq_no (by omega)
      have Hrd := Lib.hid hrd; clear hrd
      have HX := Lib.hid (show ws.take (j + 1) = ws.take j ++ [ws[j]] from List.take_succ_eq_append_getElem hlt)
      have HX2 := Lib.hid (show ws[j] ∈ ws from List.getElem_mem hlt)
      clear hcl hxz
      generalize ws[j] = X at *
      go_wp2_with fail
      refine Hrd.out.mono ?_
      rintro e w3 ⟨An, kn, ns, bn0, rfl, hm, hOn, hb3⟩
      clear Hrd
      have HO3 := Lib.hid (HO.out.below hb3)
      have HG3 := Lib.hid (grown_trans HG.out (grown_of_below hb3 (some x0)))
      have hs3 : wr.heap.size ≤ w3.heap.size := hb3.size
      have hs3x : x0 ≤ w3.heap.size := by have := HG.out.size; omega
      have HB3 := Lib.hid (show ∀ g, blk A = some g → g < wr.heap.size from fun g e => ((OwnSl.sl HO.out (fun x => rfl)).2.2.1 g e).2)
      rcases hm with ⟨rfl, h2, hN, hf⟩ | ⟨rfl, hno⟩
      · obtain ⟨n0, n1, rfl⟩ := two_list h2
        obtain ⟨hsln, _, hbkn, _⟩ := OwnSl.sl hOn (fun x => rfl)
        obtain ⟨bn, on, rfl, hbn2, hcn⟩ := hsln (by simp)
        have hbn1 : wr.heap.size ≤ bn := (hbkn bn rfl).1
        have q0' : w3.cell? ⟨bn, on, none⟩ = some (.int .i64 n0) := hcn 0 (by simp) 0 _ rfl
        have q1' : w3.cell? ⟨bn, on + 1, none⟩ = some (.int .i64 n1) := hcn 1 (by simp) 0 _ rfl
        have HT2 := Lib.hid (show ws.take (j + 1) = (ss ++ [(⟨n0, n1⟩ : GSam)]).map samT ∧ ∀ s ∈ ss ++ [(⟨n0, n1⟩ : GSam)], s.fit from by
          refine ⟨by rw [HX.out, HT.out.1, samT_of hN]; simp, fun s hs => ?_⟩
          rcases List.mem_append.1 hs with hs | hs
          · exact HT.out.2 s hs
          · simp at hs; subst hs; exact ⟨hf n0 (by simp), hf n1 (by simp)⟩)
        have e2 : ([n0, n1] : List Int).length = 2 := rfl
        rw [e2]
        clear hsln hbkn hcn hOn hN hf h2 HX HX2 HT p0 e2
        go_wp2_with fail
        refine wp_region_noPanic ?_
        refine wp_region_held_drew (S := (fun w' => w'.cell? ⟨bn, on, none⟩ = some (.int .i64 n0) ∧ w'.cell? ⟨bn, on + 1, none⟩ = some (.int .i64 n1))) (by kernel_rfl) (⟨q0', q1'⟩) (fun hHeld => ?_)
        refine wpAnyH_take (i := 0) (oi := { dst := some 32, op := Op.move (Operand.tmp 4), type := 138, pos := "l03_codec.go:38", after := #[], guard := none }) (v := ?vb0) rfl (by kernel_rfl) (by kernel_rfl) (by kernel_rfl) (fun _ _ _ h => h) (Or.inl ⟨by rfl, ?hyb0⟩) (by assumption) ?restb0
        case hyb0 => intro w hSw; (try dsimp only at hSw); (obtain ⟨s0, s1⟩ := hSw); (first | (go_simp; done) | (go_simp; with_reducible rfl) | (with_reducible rfl))
        try simp only [Act.put, List.setIfInBounds_toArray, List.set_cons_zero, List.set_cons_succ]
        refine wpAnyH_take (i := 1) (oi := { dst := some 33, op := Op.move (Operand.tmp 7), type := 185, pos := "l03_codec.go:38", after := #[], guard := none }) (v := ?vb1) rfl (by kernel_rfl) (by kernel_rfl) (by kernel_rfl) (fun _ _ _ h => h) (Or.inl ⟨by rfl, ?hyb1⟩) (by assumption) ?restb1
        case hyb1 => intro w hSw; (try dsimp only at hSw); (obtain ⟨s0, s1⟩ := hSw); (first | (go_simp; done) | (go_simp; with_reducible rfl) | (with_reducible rfl))
        try simp only [Act.put, List.setIfInBounds_toArray, List.set_cons_zero, List.set_cons_succ]
        refine wpAnyH_take (i := 2) (oi := { dst := some 34, op := Op.indexAddr 185 (Operand.tmp 33) (Operand.const (Value.int IntKind.i64 0)), type := 0, pos := "l03_codec.go:38", after := #[{ on := 1, ground := Ground.data }], guard := none }) (v := ?vb2) rfl (by kernel_rfl) (by kernel_rfl) (by kernel_rfl) (fun _ _ _ h => h) (Or.inl ⟨by rfl, ?hyb2⟩) (by assumption) ?restb2
        case hyb2 => intro w hSw; (try dsimp only at hSw); (obtain ⟨s0, s1⟩ := hSw); (first | (go_simp; done) | (go_simp; with_reducible rfl) | (with_reducible rfl))
        try simp only [Act.put, List.setIfInBounds_toArray, List.set_cons_zero, List.set_cons_succ]
        refine wpAnyH_take (i := 3) (oi := { dst := some 35, op := Op.load 3 (Operand.tmp 34), type := 3, pos := "l03_codec.go:38", after := #[{ on := 2, ground := Ground.data }], guard := none }) (v := ?vb3) rfl (by kernel_rfl) (by kernel_rfl) (by kernel_rfl) (fun _ _ _ h => h) (Or.inl ⟨by rfl, ?hyb3⟩) (by assumption) ?restb3
        case hyb3 => intro w hSw; (try dsimp only at hSw); (obtain ⟨s0, s1⟩ := hSw); (first | (go_simp; done) | (go_simp; with_reducible rfl) | (with_reducible rfl))
        try simp only [Act.put, List.setIfInBounds_toArray, List.set_cons_zero, List.set_cons_succ]
        refine wpAnyH_take (i := 4) (oi := { dst := some 36, op := Op.move (Operand.tmp 7), type := 185, pos := "l03_codec.go:38", after := #[], guard := none }) (v := ?vb4) rfl (by kernel_rfl) (by kernel_rfl) (by kernel_rfl) (fun _ _ _ h => h) (Or.inl ⟨by rfl, ?hyb4⟩) (by assumption) ?restb4
        case hyb4 => intro w hSw; (try dsimp only at hSw); (obtain ⟨s0, s1⟩ := hSw); (first | (go_simp; done) | (go_simp; with_reducible rfl) | (with_reducible rfl))
        try simp only [Act.put, List.setIfInBounds_toArray, List.set_cons_zero, List.set_cons_succ]
        refine wpAnyH_take (i := 5) (oi := { dst := some 37, op := Op.indexAddr 185 (Operand.tmp 36) (Operand.const (Value.int IntKind.i64 1)), type := 0, pos := "l03_codec.go:38", after := #[{ on := 4, ground := Ground.data }], guard := none }) (v := ?vb5) rfl (by kernel_rfl) (by kernel_rfl) (by kernel_rfl) (fun _ _ _ h => h) (Or.inl ⟨by rfl, ?hyb5⟩) (by assumption) ?restb5
        case hyb5 => intro w hSw; (try dsimp only at hSw); (obtain ⟨s0, s1⟩ := hSw); (first | (go_simp; done) | (go_simp; with_reducible rfl) | (with_reducible rfl))
        try simp only [Act.put, List.setIfInBounds_toArray, List.set_cons_zero, List.set_cons_succ]
        refine wpAnyH_take (i := 6) (oi := { dst := some 38, op := Op.load 3 (Operand.tmp 37), type := 3, pos := "l03_codec.go:38", after := #[{ on := 5, ground := Ground.data }], guard := none }) (v := ?vb6) rfl (by kernel_rfl) (by kernel_rfl) (by kernel_rfl) (fun _ _ _ h => h) (Or.inl ⟨by rfl, ?hyb6⟩) (by assumption) ?restb6
        case hyb6 => intro w hSw; (try dsimp only at hSw); (obtain ⟨s0, s1⟩ := hSw); (first | (go_simp; done) | (go_simp; with_reducible rfl) | (with_reducible rfl))
        try simp only [Act.put, List.setIfInBounds_toArray, List.set_cons_zero, List.set_cons_succ]
        refine wpAnyH_take (i := 7) (oi := { dst := some 39, op := Op.build 142 #[(0, Operand.tmp 35), (1, Operand.tmp 38)], type := 142, pos := "l03_codec.go:38", after := #[{ on := 3, ground := Ground.data }, { on := 6, ground := Ground.data }], guard := none }) (v := ?vb7) rfl (by kernel_rfl) (by kernel_rfl) (by kernel_rfl) (fun _ _ _ h => h) (Or.inl ⟨by rfl, ?hyb7⟩) (by assumption) ?restb7
        case hyb7 => intro w hSw; (try dsimp only at hSw); (obtain ⟨s0, s1⟩ := hSw); (first | (go_simp; done) | (go_simp; with_reducible rfl) | (with_reducible rfl))
        try simp only [Act.put, List.setIfInBounds_toArray, List.set_cons_zero, List.set_cons_succ]
        refine wpAnyH_ready (rs := [8]) (by kernel_rfl) (by simp) ?_
        refine AllReadyH.cons (o := { dst := some 40, op := Op.buildSlice 138 1 #[(0, Operand.tmp 39)], type := 138, pos := "l03_codec.go:38", after := #[{ on := 7, ground := Ground.data }], guard := none }) rfl (fun K hK => ?_) AllReadyH.nil
        go_simp
        have hb4 : Below w3.heap.size w3 (w3.alloc (.cells #[.int .i64 n0, .int .i64 n1] 142)).drew := (bal (Below.refl _ w3) _).drew
        have HN := Lib.hid (show Sl GSam.vals 2 (w3.alloc (.cells #[.int .i64 n0, .int .i64 n1] 142)).drew (w3.heap.size + 1) (some ⟨w3.heap.size, 0, none⟩) [(⟨n0, n1⟩ : GSam)] from new_sam w3 ⟨n0, n1⟩ 142)
        have HO4 := Lib.hid (HO3.out.below hb4)
        have hsz4 : (w3.alloc (.cells #[.int .i64 n0, .int .i64 n1] 142)).drew.heap.size = w3.heap.size + 1 := by simp
        refine hK.out _ _ (⟨(hb4.cell (p := ⟨bn, on, none⟩) hbn2).trans q0', (hb4.cell (p := ⟨bn, on + 1, none⟩) hbn2).trans q1'⟩) (fun hHeld => ?_)
        clear hK K
        try simp only [Act.put, List.setIfInBounds_toArray, List.set_cons_zero, List.set_cons_succ]
        refine wpAnyH_ready (rs := [9]) (by kernel_rfl) (by simp) ?_
        refine AllReadyH.cons (o := { dst := some 41, op := Op.call { callee := Callee.builtin Builtin.append, args := #[Operand.tmp 32, Operand.tmp 40], argTypes := #[138, 138] }, type := 138, pos := "l03_codec.go:38", after := #[{ on := 0, ground := Ground.data }, { on := 8, ground := Ground.data }], guard := none }) rfl (fun K hK => ?_) AllReadyH.nil
        refine step_append_sl2 GSam.vals 2 16 (fun _ => rfl) sam_one 138 142 _ infoSam' rfl (by omega) Tryz.underlying138 rfl _ _ rfl x0 ss [⟨n0, n1⟩] (.slice A ss.length k) rfl HO4.out (some ⟨w3.heap.size, 0, none⟩) 1 (w3.heap.size + 1) rfl HN.out (by simp [maxLen]; omega) (by simp; omega) (by simp; omega) ?_
        intro v' w5 hO5 hg5 ho5
        obtain ⟨A5, c5, rfl⟩ := hO5.form
        have HO5 := Lib.hid hO5; clear hO5
        have hS5 : w5.cell? ⟨bn, on, none⟩ = some (.int .i64 n0) ∧ w5.cell? ⟨bn, on + 1, none⟩ = some (.int .i64 n1) := by
          have hne : ∀ g, (Value.slice A ss.length k).ownBlock = some g → bn ≠ g := fun g e => by rw [ownBlock_blk] at e; have := HB3.out g e; omega
          have hblk := hg5.block bn (by rw [hsz4]; omega) (fun e => hne bn e.symm rfl)
          exact ⟨(World.cell?_of_block (a := ⟨bn, on, none⟩) hblk).trans ((hb4.cell (p := ⟨bn, on, none⟩) hbn2).trans q0'), (World.cell?_of_block (a := ⟨bn, on + 1, none⟩) hblk).trans ((hb4.cell (p := ⟨bn, on + 1, none⟩) hbn2).trans q1')⟩
        refine hK.out _ _ (hS5) (fun hHeld => ?_)
        clear hK K
        try simp only [Act.put, List.setIfInBounds_toArray, List.set_cons_zero, List.set_cons_succ]
        refine wpAnyH_take (i := 10) (oi := { dst := some 4, op := Op.assign (Operand.tmp 41), type := 138, pos := "l03_codec.go:38", after := #[{ on := 9, ground := Ground.data }, { on := 9, ground := Ground.chain }, { on := 0, ground := Ground.phase }, { on := 1, ground := Ground.phase }, { on := 2, ground := Ground.phase }, { on := 3, ground := Ground.phase }, { on := 4, ground := Ground.phase }, { on := 5, ground := Ground.phase }, { on := 6, ground := Ground.phase }, { on := 7, ground := Ground.phase }, { on := 8, ground := Ground.phase }, { on := 9, ground := Ground.phase }], guard := none }) (v := ?vb10) rfl (by kernel_rfl) (by kernel_rfl) (by kernel_rfl) (fun _ _ _ h => h) (Or.inl ⟨by rfl, ?hyb10⟩) (by assumption) ?restb10
        case hyb10 => intro w hSw; (try dsimp only at hSw); (obtain ⟨s0, s1⟩ := hSw); (first | (go_simp; done) | (go_simp; with_reducible rfl) | (with_reducible rfl))
        try simp only [Act.put, List.setIfInBounds_toArray, List.set_cons_zero, List.set_cons_succ]
        refine wpAnyH_done (by kernel_rfl) ?_ _
        refine NoPanic.normal ?_
        have HK5 := Lib.hid (show ∀ g, blk A5 = some g → g = x0 ∨ w1.heap.size ≤ g from fun g e => by
          rw [ownBlock_blk, ownBlock_blk, hsz4] at ho5
          rcases ho5 with h | h
          · rw [h] at e; exact HK.out g e
          · rw [h] at e; injection e with e; have := HG.out.size; omega)
        have HG5 := Lib.hid (grown_step (grown_trans HG3.out (grown_of_below hb4 (some x0))) hg5 (fun g e => by rw [ownBlock_blk] at e; exact HK.out g e))
        clear hHeld hb4 hg5 ho5 hS5 HO4 HN HO HO3 HK HG HG3 HB3 hb3 q0' q1' hBr
        go_wp2
        go_roundw
        case rel => exact ⟨A5, c5, j + 1, ss ++ [⟨n0, n1⟩], by simp, by go_num, by omega, Lib.hid (by simp [HL.out]), HO5, HT2, HK5, HG5⟩
        case measure => simp [intOf]; omega
      · have HN := Lib.hid (show NoSam t from fun xs h => by
          have hx := HX2.out
          rw [HF.out.1 xs h] at hx
          obtain ⟨s, hs, e⟩ := List.mem_map.1 hx
          have sm := samP_small h.1 s hs
          exact hno [s.t, s.v] rfl (fun m hm => by simp at hm; rcases hm with rfl | rfl; (· exact sm.1); (· exact sm.2)) (by rw [← e]; exact samT_nums s))
        have oE := own_empty GSam.vals 2 142 w3
        have OE := Lib.hid oE; clear oE
        have hB3 : Below x0 w w3 := hBr.trans (hb3.mono (by have := HG.out.size; omega))
        have bE := Lib.hid (hB3.alloc (by have := hB3.size; have := HG.out.size; omega) (.cells #[] 142))
        have sz : x0 ≤ w3.heap.size := by have := HG.out.size; omega
        clear HX HX2 HT HO HO3 p0 hb3 hno hBr HB3 HG3
        go_wp2
        refine bodyPost_ret (v := .tuple #[.slice (some ⟨w3.heap.size, 0, none⟩) 0 0, .bool false]) (by simp [results, Tryz.results81, go_sem]) rfl ⟨_, _, [], false, rfl, Or.inr ⟨rfl, rfl, HN.out⟩, ?_, by rw [Hx0.out]; exact bE.out⟩
        refine ⟨OE.out.1, ?_⟩
        rw [Hx0.out]
        rcases OE.out.2 with h | ⟨g, cap, cur, e, hb, r⟩
        · exact Or.inl h
        · exact Or.inr ⟨g, cap, cur, e, Nat.le_trans sz hb, r⟩
    · obtain rfl : j = ws.length := by omega
      have hT : ws = ss.map samT := by have := HT.out.1; rwa [List.take_length] at this
      have HS0 := Lib.hid (show ss ≠ [] from fun h => HW0.out (by rw [hT, h]; rfl))
      obtain ⟨hsl2, _, _, _⟩ := OwnSl.sl HO.out (fun x => rfl)
      have HSl2 := Lib.hid hsl2; clear hsl2
      have HTT := Lib.hid hT; clear hT
      go_wp2_with fail
      refine (specSamplesOK_any A k ss wr.heap.size wr HSl2.out (Nat.le_refl _) (by omega)).mono ?_
      rintro e w4 ⟨b, hb, rfl, hb4⟩
      have HO4 := Lib.hid (HO.out.below hb4)
      have hB4 : Below x0 w w4 := hBr.trans (hb4.mono (by have := HG.out.size; omega))
      have HN0 := Lib.hid (show ∀ xs, SamRead t xs → SamP ss ∧ ss.length ≤ 8 from fun xs h => by
        have e1 := HF.out.1 xs h
        rw [HTT.out] at e1
        have e2 : ss = xs := sam_inj HT.out.2 (fun s hs => by have := samP_small h.1 s hs; exact ⟨small_fitI this.1, small_fitI this.2⟩) e1
        rw [e2]
        exact ⟨h.1, h.2.1⟩)
      have sz : x0 ≤ w4.heap.size := by have := HG.out.size; have := hb4.size; omega
      have oE := own_empty GSam.vals 2 142 w4
      have OE := Lib.hid oE; clear oE
      have bE := Lib.hid (hB4.alloc sz (.cells #[] 142))
      have OE2 := Lib.hid (show OwnSl GSam.vals 2 142 x0 (w4.alloc (.cells #[] 142)) (.slice (some ⟨w4.heap.size, 0, none⟩) 0 0) [] from ⟨OE.out.1, by
        rcases OE.out.2 with h | ⟨g, cap, cur, e, hb, r⟩
        · exact Or.inl h
        · exact Or.inr ⟨g, cap, cur, e, Nat.le_trans sz hb, r⟩⟩)
      clear hb4 hBr OE HO HSl2
      cases b
      · have HN := Lib.hid (show NoSam t from fun xs h => by have := hb.2 (HN0.out xs h).1; cases this)
        clear hb HN0
        go_wp2
        exact bodyPost_ret (v := .tuple #[.slice (some ⟨w4.heap.size, 0, none⟩) 0 0, .bool false]) (by simp [results, Tryz.results81, go_sem]) rfl ⟨_, _, [], false, rfl, Or.inr ⟨rfl, rfl, HN.out⟩, by rw [Hx0.out]; exact OE2.out, by rw [Hx0.out]; exact bE.out⟩
      · cases h8 : decide (8 < (ss.length : Int))
        · have HR := Lib.hid (show SamRead t ss from ⟨hb.1 rfl, by simp at h8; omega, Or.inr ⟨HS0.out, by rw [← HTT.out]; exact HF.out.2⟩⟩)
          clear hb HN0
          go_wp2
          exact bodyPost_ret (v := .tuple #[.slice A ss.length k, .bool true]) (by simp [results, Tryz.results81, go_sem]) rfl ⟨A, k, ss, true, rfl, Or.inl ⟨rfl, HR.out⟩, by rw [Hx0.out]; exact HO4.out, by rw [Hx0.out]; exact hB4⟩
        · have HN := Lib.hid (show NoSam t from fun xs h => by have := (HN0.out xs h).2; simp at h8; omega)
          clear hb HN0
          go_wp2
          exact bodyPost_ret (v := .tuple #[.slice (some ⟨w4.heap.size, 0, none⟩) 0 0, .bool false]) (by simp [results, Tryz.results81, go_sem]) rfl ⟨_, _, [], false, rfl, Or.inr ⟨rfl, rfl, HN.out⟩, by rw [Hx0.out]; exact OE2.out, by rw [Hx0.out]; exact bE.out⟩

/-- what ReadSamples answers -/
def SamCode (t : ByteArray) (xs : List GSam) (cd : Int) : Prop := (65536 < t.size ∧ xs = [] ∧ cd = 2) ∨ (t.size ≤ 65536 ∧ SamRead t xs ∧ cd = 0) ∨ (t.size ≤ 65536 ∧ NoSam t ∧ xs = [] ∧ cd = 3)

theorem samRead_one {t : ByteArray} {xs ys : List GSam} (h : SamRead t xs) (k : SamRead t ys) : xs = ys := by
  have fx : ∀ s ∈ xs, s.fit := fun s hs => ⟨small_fitI (samP_small h.1 s hs).1, small_fitI (samP_small h.1 s hs).2⟩
  have fy : ∀ s ∈ ys, s.fit := fun s hs => ⟨small_fitI (samP_small k.1 s hs).1, small_fitI (samP_small k.1 s hs).2⟩
  rcases h.2.2 with ⟨rfl, h0⟩ | ⟨hn, hp⟩ <;> rcases k.2.2 with ⟨rfl, k0⟩ | ⟨kn, kp⟩
  · rfl
  · exact absurd kp (no_piece h0 kn)
  · exact absurd hp (no_piece k0 hn)
  · obtain ⟨ps, last, e, hq⟩ := kp
    have hc : ∀ p ∈ ps ++ [last], (32 : UInt8) ∉ p.data.toList := by
      rw [← e]
      intro p hp
      obtain ⟨s, _, rfl⟩ := List.mem_map.1 hp
      exact samT_blank s
    have := sams_cut hp ⟨hq, fun p hp => hc p (by simp [hp]), hc last (by simp)⟩
    exact sam_inj fx fy (by rw [← this, e])

theorem samCode_one {t : ByteArray} {a b : List GSam} {c d : Int} (h : SamCode t a c) (k : SamCode t b d) : a = b ∧ c = d := by
  rcases h with ⟨h, rfl, rfl⟩ | ⟨h, h1, rfl⟩ | ⟨h, h1, rfl, rfl⟩ <;> rcases k with ⟨k, rfl, rfl⟩ | ⟨k, k1, rfl⟩ | ⟨k, k1, rfl, rfl⟩
  · exact ⟨rfl, rfl⟩
  · omega
  · omega
  · omega
  · exact ⟨samRead_one h1 k1, rfl⟩
  · exact absurd h1 (k1 _)
  · omega
  · exact absurd k1 (h1 _)
  · exact ⟨rfl, rfl⟩

end Go.Proofs.YtpackpocnonpiaaGreatDoor
