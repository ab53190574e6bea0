/-
  Contracts of the model's l03ToKey and ReadDataKey: just of a data key the tier and the numbers. Conditions: none beside a text's length.
-/
import Derived.Test.YtpackpocnonpiaaDoorKeyM
import Derived.Test.YtpackpocnonpiaaDoorFixed
import Derived.Test.YtpackpocnonpiaaDoorCutUp
import Derived.Deep.RegionHeld3
namespace Go.Proofs.YtpackpocnonpiaaDoor
open Go.ChangeShapes Go.WideShapes Go.ChangeAt Go.RowKit
set_option linter.unusedVariables false
set_option linter.unusedSimpArgs false

/-- a text is the data key of a tier and two numbers -/
def IsKey (key : ByteArray) (t n m : Int) : Prop := KeyNP t n m ∧ key = keyT t.toNat n.toNat m.toNat

/-- what is read of a key -/
def KeyRead (key : ByteArray) (t n m : Int) (b : Bool) : Prop := (b = true ∧ IsKey key t n m) ∨ (b = false ∧ t = 0 ∧ n = 0 ∧ m = 0 ∧ ∀ t n m, ¬ IsKey key t n m)

def KeyEnd (key : ByteArray) (w : World) (e : Ending) (w' : World) : Prop := ∃ t n m b, e = .returned (.tuple #[.int .i64 t, .int .i64 n, .int .i64 m, .bool b]) ∧ KeyRead key t n m b ∧ Below w.heap.size w w'

theorem KeyEnd.no {key : ByteArray} {w w' : World} (h : ∀ t n m, ¬ IsKey key t n m) (hb : Below w.heap.size w w') : KeyEnd key w (.returned (.tuple #[.int .i64 0, .int .i64 0, .int .i64 0, .bool false])) w' := ⟨0, 0, 0, false, rfl, Or.inr ⟨rfl, rfl, rfl, rfl, h⟩, hb⟩

theorem KeyEnd.yes {key : ByteArray} {w w' : World} {t n m : Int} (h : IsKey key t n m) (hb : Below w.heap.size w w') : KeyEnd key w (.returned (.tuple #[.int .i64 t, .int .i64 n, .int .i64 m, .bool true])) w' := ⟨t, n, m, true, rfl, Or.inl ⟨rfl, h⟩, hb⟩

/-- what stands ahead of the slash -/
def headT (t : Nat) : ByteArray := match t with
  | 0 => ⟨#[114, 97, 119]⟩
  | 1 => ⟨#[116, 49]⟩
  | _ => ⟨#[116, 50]⟩

def tailT (n m : Nat) : ByteArray := sixT n ++ ⟨#[45]⟩ ++ sixT m

theorem not_slash {n : Nat} : (47 : UInt8) ∉ (sixT n).data.toList := by
  intro h
  obtain ⟨i, hi, e⟩ := List.mem_iff_getElem.1 h
  have h6 : i < 6 := by simpa [sixT] using hi
  have e2 : (sixT n)[i]'(by rw [sixT_size]; exact h6) = 47 := e
  have := sixT_at (m := n) h6
  rw [e2] at this
  have e3 : (47 : UInt8).toNat = 47 := rfl
  omega

theorem tail_slash {n m : Nat} : (47 : UInt8) ∉ (tailT n m).data.toList := by
  unfold tailT
  rw [ByteArray.data_append, ByteArray.data_append, Array.toList_append, Array.toList_append]
  intro h
  rcases List.mem_append.1 h with h | h
  · rcases List.mem_append.1 h with h | h
    · exact not_slash h
    · simp at h
  · exact not_slash h

theorem cut_key (t n m : Nat) : CutOf (keyT t n m) 47 [headT t] (tailT n m) := by
  refine ⟨?_, ?_, tail_slash⟩
  · unfold keyT tailT pathT headT flatC
    match t with
    | 0 => simp [ByteArray.data_append]
    | 1 => simp [ByteArray.data_append]
    | t + 2 => simp [ByteArray.data_append]
  · intro p hp
    simp at hp
    subst hp
    match t with
    | 0 => show (47 : UInt8) ∉ (⟨#[114, 97, 119]⟩ : ByteArray).data.toList; decide
    | 1 => show (47 : UInt8) ∉ (⟨#[116, 49]⟩ : ByteArray).data.toList; decide
    | t + 2 => show (47 : UInt8) ∉ (⟨#[116, 50]⟩ : ByteArray).data.toList; decide

theorem tail_size (n m : Nat) : (tailT n m).size = 13 := by
  unfold tailT
  rw [ByteArray.size_append, ByteArray.size_append, sixT_size, sixT_size]
  rfl

theorem tail_dash (n m : Nat) (h : 6 < (tailT n m).size) : (tailT n m)[6] = 45 := rfl

theorem tail_left (n m : Nat) : (tailT n m).extract 0 6 = sixT n := by
  apply ByteArray.ext
  simp [ByteArray.data_extract, ByteArray.data_append, sixT, tailT]

theorem tail_right (n m : Nat) : (tailT n m).extract 7 13 = sixT m := by
  apply ByteArray.ext
  simp [ByteArray.data_extract, ByteArray.data_append, sixT, tailT]

theorem key_facts {key : ByteArray} {t n m : Int} {ps : List ByteArray} {last : ByteArray} (h : IsKey key t n m) (hc : CutOf key 47 ps last) : ps = [headT t.toNat] ∧ last = tailT n.toNat m.toNat := by
  rw [h.2] at hc
  exact CutOf.one (t := key) hc (cut_key _ _ _)

def tierV (p : ByteArray) : Int := (if p.toList == [116, 49] then 1 else 0) + 2 * (if p.toList == [116, 50] then 1 else 0)

theorem tier_head {t : Int} (h0 : 0 ≤ t) (h2 : t ≤ 2) : tierV (headT t.toNat) = t := by
  rcases (show t = 0 ∨ t = 1 ∨ t = 2 by omega) with rfl | rfl | rfl <;> (unfold tierV headT; rw [ByteArray.toList_eq]; rfl)

theorem l01Bit_n (b : Bool) (n : Int) (h : n = if b then 1 else 0) (w : World) : Calls Tryd.prog 13 #[.bool b] w fun e w' => e = .returned (.int .i64 n) ∧ w = w' :=
  (l01Bit_any b w).mono fun e w' ⟨he, hw⟩ => ⟨by rw [he, h], hw⟩

set_option maxRecDepth 100000 in
set_option maxHeartbeats 1000000 in
theorem toKey_any (key : ByteArray) (w : World) (hk : key.size ≤ 1048576) : Calls Tryd.prog 24 #[.string key] w (KeyEnd key w) := by
  go_enter Tryd.func24, Tryd.ntmps24
  go_wp2_with fail
  refine (l00Cut_any key 47 w hk).mono ?_
  rintro e w1 ⟨A, k, ps, last, rfl, hO, hC, hb1⟩
  have HC := Lib.hid hC; clear hC
  have hfx := fun (t n m : Int) (h : IsKey key t n m) => key_facts h HC.out
  have HFX := Lib.hid hfx; clear hfx HC
  match ps with
  | [] =>
    have HX := Lib.hid (show ∀ t n m, ¬ IsKey key t n m from fun t n m h => by have := (HFX.out t n m h).1; cases this)
    clear HFX hO
    go_wp2
    exact bodyPost_ret (v := .tuple #[.int .i64 0, .int .i64 0, .int .i64 0, .bool false]) (by simp [results, Tryd.results24, go_sem]) rfl (KeyEnd.no HX.out hb1)
  | p :: q :: r =>
    have HX := Lib.hid (show ∀ t n m, ¬ IsKey key t n m from fun t n m h => by have := (HFX.out t n m h).1; simp at this)
    have d0 : (((p :: q :: r).length + 1 : Nat) : Int) ≠ 2 := by simp; omega
    have d1 : ((((p :: q :: r).length + 1 : Nat) : Int) != 2) = true := by simpa using d0
    generalize (p :: q :: r).length + 1 = N at *
    clear HFX hO
    go_wp2
    exact bodyPost_ret (v := .tuple #[.int .i64 0, .int .i64 0, .int .i64 0, .bool false]) (by simp [results, Tryd.results24, go_sem]) rfl (KeyEnd.no HX.out hb1)
  | [p] =>
    obtain ⟨hsl, _, _, _⟩ := OwnSl.sl (xs := [p] ++ [last]) hO (fun x => rfl)
    obtain ⟨b, o, rfl, hbb, hc0⟩ := Sl.at_ hsl (k := 0) (by simp)
    obtain ⟨b2, o2, e2, _, hc1⟩ := Sl.at_ hsl (k := 1) (by simp)
    injection e2 with e2
    injection e2 with e2 e3
    subst e2 e3
    have q0 : w1.cell? ⟨b, o, none⟩ = some (.string p) := by simpa using hc0 0 (.string p) rfl
    have q1 : w1.cell? ⟨b, o + 1, none⟩ = some (.string last) := by simpa using hc1 0 (.string last) rfl
    clear hsl hc0 hc1 hO
    simp only [List.length_cons, List.length_nil] at *
    by_cases h13 : last.size = 13
    · by_cases h6 : last[6] = 45
      · have d6 : ((last[6].toNat : Int) != 45) = false := by rw [h6]; rfl
        have x0 : (last.extract 0 6).size = 6 := by rw [ByteArray.size_extract]; omega
        have x1 : (last.extract 7 13).size = 6 := by rw [ByteArray.size_extract]; omega
        have FL := Lib.hid (fixed_any (last.extract 0 6) x0)
        have FR := Lib.hid (fixed_any (last.extract 7 13) x1)
        have HT := Lib.hid (show tierV p = (if p.toList == [116, 49] then 1 else 0) + 2 * (if p.toList == [116, 50] then 1 else 0) from rfl)
        clear x0 x1 h6
        go_wp2_with fail
        obtain ⟨d1, hd1⟩ : ∃ d, d = (p.toList == [116, 49]) := ⟨_, rfl⟩
        obtain ⟨d2, hd2⟩ : ∃ d, d = (p.toList == [116, 50]) := ⟨_, rfl⟩
        have e1 := hd1.symm
        have e2 := hd2.symm
        obtain ⟨n1, hn1⟩ : ∃ n : Int, n = if d1 then 1 else 0 := ⟨_, rfl⟩
        obtain ⟨n2, hn2⟩ : ∃ n : Int, n = if d2 then 1 else 0 := ⟨_, rfl⟩
        have HT2 := HT.out
        rw [e1, e2, ← hn1, ← hn2] at HT2
        have b1' : 0 ≤ n1 ∧ n1 ≤ 1 := by rw [hn1]; cases d1 <;> decide
        have b2' : 0 ≤ n2 ∧ n2 ≤ 1 := by rw [hn2]; cases d2 <;> decide
        have N1 := Lib.hid hn1; have N2 := Lib.hid hn2
        have HT3 := Lib.hid HT2; clear HT HT2 hd1 hd2 hn1 hn2
        have wt : IntKind.i64.wrap (2 * n2) = 2 * n2 := by rw [IntKind.wrap_i64]; omega
        have wu : IntKind.i64.wrap (n1 + 2 * n2) = n1 + 2 * n2 := by rw [IntKind.wrap_i64]; omega
        refine wp_region_noPanic ?_
        refine wp_region_held_drew (S := (fun w' => w'.cell? ⟨b, o, none⟩ = some (.string p))) (by kernel_rfl) (q0) (fun hHeld => ?_)
        refine wpAnyH_take (i := 0) (oi := { dst := some 31, op := Op.move (Operand.tmp 6), type := 64, pos := "l03_codec.go:166", after := #[], guard := none }) (v := ?vb0) rfl (by kernel_rfl) (by kernel_rfl) (by kernel_rfl) (fun _ _ _ h => h) (Or.inl ⟨by rfl, ?hyb0⟩) (by assumption) ?restb0
        case hyb0 => intro w hSw; (try dsimp only at hSw); (first | (go_simp; done) | (go_simp; with_reducible rfl) | (with_reducible rfl))
        try simp only [Act.put, List.setIfInBounds_toArray, List.set_cons_zero, List.set_cons_succ]
        refine wpAnyH_take (i := 1) (oi := { dst := some 32, op := Op.indexAddr 64 (Operand.tmp 31) (Operand.const (Value.int IntKind.i64 0)), type := 0, pos := "l03_codec.go:166", after := #[{ on := 0, ground := Ground.data }], guard := none }) (v := ?vb1) rfl (by kernel_rfl) (by kernel_rfl) (by kernel_rfl) (fun _ _ _ h => h) (Or.inl ⟨by rfl, ?hyb1⟩) (by assumption) ?restb1
        case hyb1 => intro w hSw; (try dsimp only at hSw); (first | (go_simp; done) | (go_simp; with_reducible rfl) | (with_reducible rfl))
        try simp only [Act.put, List.setIfInBounds_toArray, List.set_cons_zero, List.set_cons_succ]
        refine wpAnyH_take (i := 2) (oi := { dst := some 33, op := Op.load 9 (Operand.tmp 32), type := 9, pos := "l03_codec.go:166", after := #[{ on := 1, ground := Ground.data }], guard := none }) (v := ?vb2) rfl (by kernel_rfl) (by kernel_rfl) (by kernel_rfl) (fun _ _ _ h => h) (Or.inl ⟨by rfl, ?hyb2⟩) (by assumption) ?restb2
        case hyb2 => intro w hSw; (try dsimp only at hSw); (first | (go_simp; done) | (go_simp; with_reducible rfl) | (with_reducible rfl))
        try simp only [Act.put, List.setIfInBounds_toArray, List.set_cons_zero, List.set_cons_succ]
        refine wpAnyH_take (i := 3) (oi := { dst := some 34, op := Op.binOp BinOp.eql 9 (Operand.tmp 33) (Operand.const (Value.string { data := #[116, 49] })) 9, type := 4, pos := "l03_codec.go:166", after := #[{ on := 2, ground := Ground.data }], guard := none }) (v := ?vb3) rfl (by kernel_rfl) (by kernel_rfl) (by kernel_rfl) (fun _ _ _ h => h) (Or.inl ⟨by rfl, ?hyb3⟩) (by assumption) ?restb3
        case hyb3 => intro w hSw; (try dsimp only at hSw); (first | (go_simp; done) | (go_simp; with_reducible rfl) | (with_reducible rfl))
        try simp only [Act.put, List.setIfInBounds_toArray, List.set_cons_zero, List.set_cons_succ]
        refine wpAnyH_take (i := 5) (oi := { dst := some 36, op := Op.move (Operand.tmp 6), type := 64, pos := "l03_codec.go:166", after := #[], guard := none }) (v := ?vb5) rfl (by kernel_rfl) (by kernel_rfl) (by kernel_rfl) (fun _ _ _ h => h) (Or.inl ⟨by rfl, ?hyb5⟩) (by assumption) ?restb5
        case hyb5 => intro w hSw; (try dsimp only at hSw); (first | (go_simp; done) | (go_simp; with_reducible rfl) | (with_reducible rfl))
        try simp only [Act.put, List.setIfInBounds_toArray, List.set_cons_zero, List.set_cons_succ]
        refine wpAnyH_take (i := 6) (oi := { dst := some 37, op := Op.indexAddr 64 (Operand.tmp 36) (Operand.const (Value.int IntKind.i64 0)), type := 0, pos := "l03_codec.go:166", after := #[{ on := 5, ground := Ground.data }], guard := none }) (v := ?vb6) rfl (by kernel_rfl) (by kernel_rfl) (by kernel_rfl) (fun _ _ _ h => h) (Or.inl ⟨by rfl, ?hyb6⟩) (by assumption) ?restb6
        case hyb6 => intro w hSw; (try dsimp only at hSw); (first | (go_simp; done) | (go_simp; with_reducible rfl) | (with_reducible rfl))
        try simp only [Act.put, List.setIfInBounds_toArray, List.set_cons_zero, List.set_cons_succ]
        refine wpAnyH_take (i := 7) (oi := { dst := some 38, op := Op.load 9 (Operand.tmp 37), type := 9, pos := "l03_codec.go:166", after := #[{ on := 6, ground := Ground.data }], guard := none }) (v := ?vb7) rfl (by kernel_rfl) (by kernel_rfl) (by kernel_rfl) (fun _ _ _ h => h) (Or.inl ⟨by rfl, ?hyb7⟩) (by assumption) ?restb7
        case hyb7 => intro w hSw; (try dsimp only at hSw); (first | (go_simp; done) | (go_simp; with_reducible rfl) | (with_reducible rfl))
        try simp only [Act.put, List.setIfInBounds_toArray, List.set_cons_zero, List.set_cons_succ]
        refine wpAnyH_take (i := 8) (oi := { dst := some 39, op := Op.binOp BinOp.eql 9 (Operand.tmp 38) (Operand.const (Value.string { data := #[116, 50] })) 9, type := 4, pos := "l03_codec.go:166", after := #[{ on := 7, ground := Ground.data }], guard := none }) (v := ?vb8) rfl (by kernel_rfl) (by kernel_rfl) (by kernel_rfl) (fun _ _ _ h => h) (Or.inl ⟨by rfl, ?hyb8⟩) (by assumption) ?restb8
        case hyb8 => intro w hSw; (try dsimp only at hSw); (first | (go_simp; done) | (go_simp; with_reducible rfl) | (with_reducible rfl))
        try simp only [Act.put, List.setIfInBounds_toArray, List.set_cons_zero, List.set_cons_succ]
        refine wpAnyH_ready (rs := [4]) (by kernel_rfl) (by simp) ?_
        refine AllReadyH.cons (o := { dst := some 35, op := Op.call { callee := Callee.value (Operand.func 13), args := #[Operand.tmp 34], argTypes := #[4] }, type := 3, pos := "l03_codec.go:166", after := #[{ on := 3, ground := Ground.data }], guard := none }) rfl (fun K hK => ?_) AllReadyH.nil
        go_simp
        refine (l01Bit_n d1 n1 N1.out _).mono ?_
        rintro e w9 ⟨rfl, rfl⟩
        go_wp2_with fail
        refine hK.out _ _ (q0) (fun hHeld => ?_)
        clear hK K
        try simp only [Act.put, List.setIfInBounds_toArray, List.set_cons_zero, List.set_cons_succ]
        refine wpAnyH_ready (rs := [9]) (by kernel_rfl) (by simp) ?_
        refine AllReadyH.cons (o := { dst := some 40, op := Op.call { callee := Callee.value (Operand.func 13), args := #[Operand.tmp 39], argTypes := #[4] }, type := 3, pos := "l03_codec.go:166", after := #[{ on := 8, ground := Ground.data }, { on := 4, ground := Ground.chain }], guard := none }) rfl (fun K hK => ?_) AllReadyH.nil
        go_simp
        refine (l01Bit_n d2 n2 N2.out _).mono ?_
        rintro e w9 ⟨rfl, rfl⟩
        go_wp2_with fail
        refine hK.out _ _ (q0) (fun hHeld => ?_)
        clear hK K
        try simp only [Act.put, List.setIfInBounds_toArray, List.set_cons_zero, List.set_cons_succ]
        refine wpAnyH_take (i := 10) (oi := { dst := some 41, op := Op.binOp BinOp.mul 3 (Operand.const (Value.int IntKind.i64 2)) (Operand.tmp 40) 3, type := 3, pos := "l03_codec.go:166", after := #[{ on := 9, ground := Ground.data }], guard := none }) (v := ?vb10) rfl (by kernel_rfl) (by kernel_rfl) (by kernel_rfl) (fun _ _ _ h => h) (Or.inl ⟨by rfl, ?hyb10⟩) (by assumption) ?restb10
        case hyb10 => intro w hSw; (try dsimp only at hSw); (first | (go_simp; done) | (go_simp; with_reducible rfl) | (with_reducible rfl))
        try simp only [Act.put, List.setIfInBounds_toArray, List.set_cons_zero, List.set_cons_succ]
        refine wpAnyH_take (i := 11) (oi := { dst := some 42, op := Op.binOp BinOp.add 3 (Operand.tmp 35) (Operand.tmp 41) 3, type := 3, pos := "l03_codec.go:166", after := #[{ on := 4, ground := Ground.data }, { on := 10, ground := Ground.data }], guard := none }) (v := ?vb11) rfl (by kernel_rfl) (by kernel_rfl) (by kernel_rfl) (fun _ _ _ h => h) (Or.inl ⟨by rfl, ?hyb11⟩) (by assumption) ?restb11
        case hyb11 => intro w hSw; (try dsimp only at hSw); (first | (go_simp; done) | (go_simp; with_reducible rfl) | (with_reducible rfl))
        try simp only [Act.put, List.setIfInBounds_toArray, List.set_cons_zero, List.set_cons_succ]
        refine wpAnyH_take (i := 12) (oi := { dst := some 7, op := Op.assign (Operand.tmp 42), type := 3, pos := "l03_codec.go:166", after := #[{ on := 11, ground := Ground.data }, { on := 9, ground := Ground.chain }, { on := 0, ground := Ground.phase }, { on := 1, ground := Ground.phase }, { on := 2, ground := Ground.phase }, { on := 3, ground := Ground.phase }, { on := 4, ground := Ground.phase }, { on := 5, ground := Ground.phase }, { on := 6, ground := Ground.phase }, { on := 7, ground := Ground.phase }, { on := 8, ground := Ground.phase }, { on := 9, ground := Ground.phase }, { on := 10, ground := Ground.phase }, { on := 11, ground := Ground.phase }], guard := none }) (v := ?vb12) rfl (by kernel_rfl) (by kernel_rfl) (by kernel_rfl) (fun _ _ _ h => h) (Or.inl ⟨by rfl, ?hyb12⟩) (by assumption) ?restb12
        case hyb12 => intro w hSw; (try dsimp only at hSw); (first | (go_simp; done) | (go_simp; with_reducible rfl) | (with_reducible rfl))
        try simp only [Act.put, List.setIfInBounds_toArray, List.set_cons_zero, List.set_cons_succ]
        refine wpAnyH_done (by kernel_rfl) ?_ _
        refine NoPanic.normal ?_
        have b1 : Below w.heap.size w w1.drew := hb1.drew
        have q1' : w1.drew.cell? ⟨b, o + 1, none⟩ = some (.string last) := q1
        clear hb1 q0 q1 hHeld
        rw [← HT3.out]
        have T0 : 0 ≤ tierV p ∧ tierV p ≤ 3 := by rw [HT3.out]; omega
        clear wt wu e1 e2 HT3 N1 N2
        generalize w1.drew = w2 at *
        have hkf : ∀ t n m, IsKey key t n m → tierV p = t ∧ last.extract 0 6 = sixT n.toNat ∧ last.extract 7 13 = sixT m.toNat ∧ KeyNP t n m := fun t n m h => by
          obtain ⟨e1, e2⟩ := HFX.out t n m h
          injection e1 with e1 _
          subst e1 e2
          exact ⟨tier_head h.1.1 h.1.2.1, tail_left _ _, tail_right _ _, h.1⟩
        have HKF := Lib.hid hkf; clear hkf HFX
        generalize tierV p = tv at *
        go_wp2_with fail
        refine (FL.out _).mono ?_
        rintro e w3 ⟨v, fo, rfl, hv, rfl⟩
        have HV := Lib.hid hv; clear hv FL
        go_wp2_with fail
        refine (FR.out _).mono ?_
        rintro e w3 ⟨u, fi, rfl, hu, rfl⟩
        have HU := Lib.hid hu; clear hu FR q1'
        cases fo
        · have HX := Lib.hid (show ∀ t n m, ¬ IsKey key t n m from fun t n m h => by
            obtain ⟨_, h2, _, h4⟩ := HKF.out t n m h
            have := (HV.out.2.2.2 n.toNat (by have := h4.2.2.2.1; omega) h2).1
            cases this)
          clear HKF HV HU
          go_wp2
          exact bodyPost_ret (v := .tuple #[.int .i64 0, .int .i64 0, .int .i64 0, .bool false]) (by simp [results, Tryd.results24, go_sem]) rfl (KeyEnd.no HX.out b1)
        cases fi
        · have HX := Lib.hid (show ∀ t n m, ¬ IsKey key t n m from fun t n m h => by
            obtain ⟨_, _, h3, h4⟩ := HKF.out t n m h
            have := (HU.out.2.2.2 m.toNat (by have := h4.2.2.2.2.2; omega) h3).1
            cases this)
          clear HKF HV HU
          go_wp2
          exact bodyPost_ret (v := .tuple #[.int .i64 0, .int .i64 0, .int .i64 0, .bool false]) (by simp [results, Tryd.results24, go_sem]) rfl (KeyEnd.no HX.out b1)
        have hall : ∀ t n m, IsKey key t n m → tv = t ∧ v = n ∧ u = m ∧ KeyNP tv v u := fun t n m h => by
          obtain ⟨h1, h2, h3, h4⟩ := HKF.out t n m h
          have a1 := (HV.out.2.2.2 n.toNat (by have := h4.2.2.2.1; omega) h2).2
          have a2 := (HU.out.2.2.2 m.toNat (by have := h4.2.2.2.2.2; omega) h3).2
          have a3 : v = n := by have := h4.2.2.1; omega
          have a4 : u = m := by have := h4.2.2.2.2.1; omega
          subst h1 a3 a4
          exact ⟨rfl, rfl, rfl, h4⟩
        have HA := Lib.hid hall; clear hall HKF HV HU
        go_wp2_with fail
        refine (l03KeyOK_any tv v u w2).mono ?_
        rintro e w3 ⟨kb, hkb, rfl, rfl⟩
        cases kb
        · have HX := Lib.hid (show ∀ t n m, ¬ IsKey key t n m from fun t n m h => by
            have := hkb.2 (HA.out t n m h).2.2.2
            cases this)
          clear HA hkb
          go_wp2
          exact bodyPost_ret (v := .tuple #[.int .i64 0, .int .i64 0, .int .i64 0, .bool false]) (by simp [results, Tryd.results24, go_sem]) rfl (KeyEnd.no HX.out b1)
        have HP := Lib.hid (hkb.1 rfl); clear hkb
        go_wp2_with fail
        refine (l03Key_any tv v u HP.out w2).mono ?_
        rintro e w3 ⟨rfl, hb3⟩
        have b3 := bnext b1 hb3
        by_cases hk2 : keyT tv.toNat v.toNat u.toNat = key
        · have HY := Lib.hid (show IsKey key tv v u from ⟨HP.out, hk2.symm⟩)
          have de : ((keyT tv.toNat v.toNat u.toNat).toList == key.toList) = true := by rw [hk2]; simp
          have dn : ((keyT tv.toNat v.toNat u.toNat).toList != key.toList) = false := by rw [hk2]; simp
          clear HA hk2 hb3 HP
          generalize keyT tv.toNat v.toNat u.toNat = KK at *
          go_wp2
          exact bodyPost_ret (v := .tuple #[.int .i64 tv, .int .i64 v, .int .i64 u, .bool true]) (by simp [results, Tryd.results24, go_sem]) rfl (KeyEnd.yes HY.out b3)
        · have HX := Lib.hid (show ∀ t n m, ¬ IsKey key t n m from fun t n m h => by
            obtain ⟨rfl, rfl, rfl, _⟩ := HA.out t n m h
            exact hk2 h.2.symm)
          have hne : (keyT tv.toNat v.toNat u.toNat).toList ≠ key.toList := fun h => hk2 (by
            rw [ByteArray.toList_eq, ByteArray.toList_eq] at h
            exact ba_eq h)
          have de : ((keyT tv.toNat v.toNat u.toNat).toList == key.toList) = false := by simpa using hne
          have dn : ((keyT tv.toNat v.toNat u.toNat).toList != key.toList) = true := by simpa using hne
          clear HA hk2 hb3 HP hne
          generalize keyT tv.toNat v.toNat u.toNat = KK at *
          go_wp2
          exact bodyPost_ret (v := .tuple #[.int .i64 0, .int .i64 0, .int .i64 0, .bool false]) (by simp [results, Tryd.results24, go_sem]) rfl (KeyEnd.no HX.out b3)
      · have d6 : ((last[6].toNat : Int) != 45) = true := by
          simp only [bne_iff_ne, ne_eq]
          intro h
          exact h6 (UInt8.toNat_inj.1 (by have e : (45 : UInt8).toNat = 45 := rfl
                                          omega))
        have HX := Lib.hid (show ∀ t n m, ¬ IsKey key t n m from fun t n m h => by
          obtain ⟨_, rfl⟩ := HFX.out t n m h
          exact h6 (tail_dash _ _ _))
        clear HFX h6
        go_wp2
        exact bodyPost_ret (v := .tuple #[.int .i64 0, .int .i64 0, .int .i64 0, .bool false]) (by simp [results, Tryd.results24, go_sem]) rfl (KeyEnd.no HX.out hb1)
    · have d13 : ((last.size : Int) != 13) = true := by simp; omega
      have HX := Lib.hid (show ∀ t n m, ¬ IsKey key t n m from fun t n m h => by
        obtain ⟨_, rfl⟩ := HFX.out t n m h
        exact h13 (tail_size _ _))
      clear HFX h13
      go_wp2
      exact bodyPost_ret (v := .tuple #[.int .i64 0, .int .i64 0, .int .i64 0, .bool false]) (by simp [results, Tryd.results24, go_sem]) rfl (KeyEnd.no HX.out hb1)

end Go.Proofs.YtpackpocnonpiaaDoor
