/-
  Several texts as one: contracts that the law leans on; each part says what it proves and its conditions.
-/
import Derived.Test.YtpfanmcjlfdaiaaGreatDoorRKeyM
import Derived.Test.YtpfanmcjlfdaiaaGreatDoorRN6
import Derived.Test.YtpfanmcjlfdaiaaGreatDoorRCutUp
import Derived.Deep.RegionHeld3
import Derived.Test.YtpfanmcjlfdaiaaGreatDoorRN7

/- Contracts of the model's l03ToKey and ReadDataKey: just of a data key the tier and the numbers. Conditions: none beside a text's length. -/
namespace Go.Proofs.YtpfanmcjlfdaiaaGreatDoorR
open Go.ChangeShapes Go.WideShapes Go.ChangeAt Go.RowKit
set_option linter.unusedVariables false
set_option linter.unusedSimpArgs false

/-- a text is the data key of a tier and two numbers -/
def IsKey (key : ByteArray) (t n m : Int) : Prop := KeyNP t n m ∧ key = keyT t.toNat n.toNat m.toNat

/-- what is read of a key -/
def KeyRead (key : ByteArray) (t n m : Int) (b : Bool) : Prop := (b = true ∧ IsKey key t n m) ∨ (b = false ∧ t = 0 ∧ n = 0 ∧ m = 0 ∧ ∀ t n m, ¬ IsKey key t n m)

def KeyEnd (key : ByteArray) (w : World) (e : Ending) (w' : World) : Prop := ∃ t n m b, e = .returned (.tuple #[.int .i64 t, .int .i64 n, .int .i64 m, .bool b]) ∧ KeyRead key t n m b ∧ Below w.heap.size w w'

theorem KeyEnd.no {key : ByteArray} {w w' : World} (h : ∀ t n m, ¬ IsKey key t n m) (hb : Below w.heap.size w w') : KeyEnd key w (.returned (.tuple #[.int .i64 0, .int .i64 0, .int .i64 0, .bool false])) w' := ⟨0, 0, 0, false, rfl, Or.inr ⟨rfl, rfl, rfl, rfl, h⟩, hb⟩

theorem KeyEnd.yes {key : ByteArray} {w w' : World} {t n m : Int} (h : IsKey key t n m) (hb : Below w.heap.size w w') : KeyEnd key w (.returned (.tuple #[.int .i64 t, .int .i64 n, .int .i64 m, .bool true])) w' := ⟨t, n, m, true, rfl, Or.inl ⟨rfl, h⟩, hb⟩

/-- what stands ahead of the slash -/
def headT (t : Nat) : ByteArray := match t with
  | 0 => ⟨#[114, 97, 119]⟩
  | 1 => ⟨#[116, 49]⟩
  | _ => ⟨#[116, 50]⟩

def tailT (n m : Nat) : ByteArray := sixT n ++ ⟨#[45]⟩ ++ sixT m

theorem not_slash {n : Nat} : (47 : UInt8) ∉ (sixT n).data.toList := by
  intro h
  obtain ⟨i, hi, e⟩ := List.mem_iff_getElem.1 h
  have h6 : i < 6 := by simpa [sixT] using hi
  have e2 : (sixT n)[i]'(by rw [sixT_size]; exact h6) = 47 := e
  have := sixT_at (m := n) h6
  rw [e2] at this
  have e3 : (47 : UInt8).toNat = 47 := rfl
  omega

theorem tail_slash {n m : Nat} : (47 : UInt8) ∉ (tailT n m).data.toList := by
  unfold tailT
  rw [ByteArray.data_append, ByteArray.data_append, Array.toList_append, Array.toList_append]
  intro h
  rcases List.mem_append.1 h with h | h
  · rcases List.mem_append.1 h with h | h
    · exact not_slash h
    · simp at h
  · exact not_slash h

theorem cut_key (t n m : Nat) : CutOf (keyT t n m) 47 [headT t] (tailT n m) := by
  refine ⟨?_, ?_, tail_slash⟩
  · unfold keyT tailT pathT headT flatC
    match t with
    | 0 => simp [ByteArray.data_append]
    | 1 => simp [ByteArray.data_append]
    | t + 2 => simp [ByteArray.data_append]
  · intro p hp
    simp at hp
    subst hp
    match t with
    | 0 => show (47 : UInt8) ∉ (⟨#[114, 97, 119]⟩ : ByteArray).data.toList; decide
    | 1 => show (47 : UInt8) ∉ (⟨#[116, 49]⟩ : ByteArray).data.toList; decide
    | t + 2 => show (47 : UInt8) ∉ (⟨#[116, 50]⟩ : ByteArray).data.toList; decide

theorem tail_size (n m : Nat) : (tailT n m).size = 13 := by
  unfold tailT
  rw [ByteArray.size_append, ByteArray.size_append, sixT_size, sixT_size]
  rfl

theorem tail_dash (n m : Nat) (h : 6 < (tailT n m).size) : (tailT n m)[6] = 45 := rfl

theorem tail_left (n m : Nat) : (tailT n m).extract 0 6 = sixT n := by
  apply ByteArray.ext
  simp [ByteArray.data_extract, ByteArray.data_append, sixT, tailT]

theorem tail_right (n m : Nat) : (tailT n m).extract 7 13 = sixT m := by
  apply ByteArray.ext
  simp [ByteArray.data_extract, ByteArray.data_append, sixT, tailT]

theorem key_facts {key : ByteArray} {t n m : Int} {ps : List ByteArray} {last : ByteArray} (h : IsKey key t n m) (hc : CutOf key 47 ps last) : ps = [headT t.toNat] ∧ last = tailT n.toNat m.toNat := by
  rw [h.2] at hc
  exact CutOf.one (t := key) hc (cut_key _ _ _)

def tierV (p : ByteArray) : Int := (if p.toList == [116, 49] then 1 else 0) + 2 * (if p.toList == [116, 50] then 1 else 0)

theorem tier_head {t : Int} (h0 : 0 ≤ t) (h2 : t ≤ 2) : tierV (headT t.toNat) = t := by
  rcases (show t = 0 ∨ t = 1 ∨ t = 2 by omega) with rfl | rfl | rfl <;> (unfold tierV headT; rw [ByteArray.toList_eq]; rfl)

theorem l01Bit_n (b : Bool) (n : Int) (h : n = if b then 1 else 0) (w : World) : Calls Tryz.prog 85 #[.bool b] w fun e w' => e = .returned (.int .i64 n) ∧ w = w' :=
  (l01Bit_any b w).mono fun e w' ⟨he, hw⟩ => ⟨by rw [he, h], hw⟩

set_option maxRecDepth 100000 in
set_option maxHeartbeats 1000000 in
theorem toKey_any (key : ByteArray) (w : World) (hk : key.size ≤ 1048576) : Calls Tryz.prog 57 #[.string key] w (KeyEnd key w) := by
  go_enter Tryz.func57, Tryz.ntmps57
  go_wp2_with fail
  refine (l00Cut_any key 47 w hk).mono ?_
  rintro e w1 ⟨A, k, ps, last, rfl, hO, hC, hb1⟩
  have HC := Lib.hid hC; clear hC
  have hfx := fun (t n m : Int) (h : IsKey key t n m) => key_facts h HC.out
  have HFX := Lib.hid hfx; clear hfx HC
  match ps with
  | [] =>
    have HX := Lib.hid (show ∀ t n m, ¬ IsKey key t n m from fun t n m h => by have := (HFX.out t n m h).1; cases this)
    clear HFX hO
    go_wp2
    exact bodyPost_ret (v := .tuple #[.int .i64 0, .int .i64 0, .int .i64 0, .bool false]) (by simp [results, Tryz.results57, go_sem]) rfl (KeyEnd.no HX.out hb1)
  | p :: q :: r =>
    have HX := Lib.hid (show ∀ t n m, ¬ IsKey key t n m from fun t n m h => by have := (HFX.out t n m h).1; simp at this)
    have d0 : (((p :: q :: r).length + 1 : Nat) : Int) ≠ 2 := by simp; omega
    have d1 : ((((p :: q :: r).length + 1 : Nat) : Int) != 2) = true := by simpa using d0
    generalize (p :: q :: r).length + 1 = N at *
    clear HFX hO
    go_wp2
    exact bodyPost_ret (v := .tuple #[.int .i64 0, .int .i64 0, .int .i64 0, .bool false]) (by simp [results, Tryz.results57, go_sem]) rfl (KeyEnd.no HX.out hb1)
  | [p] =>
    obtain ⟨hsl, _, _, _⟩ := OwnSl.sl (xs := [p] ++ [last]) hO (fun x => rfl)
    obtain ⟨b, o, rfl, hbb, hc0⟩ := Sl.at_ hsl (k := 0) (by simp)
    obtain ⟨b2, o2, e2, _, hc1⟩ := Sl.at_ hsl (k := 1) (by simp)
    injection e2 with e2
    injection e2 with e2 e3
    subst e2 e3
    have q0 : w1.cell? ⟨b, o, none⟩ = some (.string p) := by simpa using hc0 0 (.string p) rfl
    have q1 : w1.cell? ⟨b, o + 1, none⟩ = some (.string last) := by simpa using hc1 0 (.string last) rfl
    clear hsl hc0 hc1 hO
    simp only [List.length_cons, List.length_nil] at *
    by_cases h13 : last.size = 13
    · by_cases h6 : last[6] = 45
      · have d6 : ((last[6].toNat : Int) != 45) = false := by rw [h6]; rfl
        have x0 : (last.extract 0 6).size = 6 := by rw [ByteArray.size_extract]; omega
        have x1 : (last.extract 7 13).size = 6 := by rw [ByteArray.size_extract]; omega
        have FL := Lib.hid (fixed_any (last.extract 0 6) x0)
        have FR := Lib.hid (fixed_any (last.extract 7 13) x1)
        have HT := Lib.hid (show tierV p = (if p.toList == [116, 49] then 1 else 0) + 2 * (if p.toList == [116, 50] then 1 else 0) from rfl)
        clear x0 x1 h6
        go_wp2_with fail
        obtain ⟨d1, hd1⟩ : ∃ d, d = (p.toList == [116, 49]) := ⟨_, rfl⟩
        obtain ⟨d2, hd2⟩ : ∃ d, d = (p.toList == [116, 50]) := ⟨_, rfl⟩
        have e1 := hd1.symm
        have e2 := hd2.symm
        obtain ⟨n1, hn1⟩ : ∃ n : Int, n = if d1 then 1 else 0 := ⟨_, rfl⟩
        obtain ⟨n2, hn2⟩ : ∃ n : Int, n = if d2 then 1 else 0 := ⟨_, rfl⟩
        have HT2 := HT.out
        rw [e1, e2, ← hn1, ← hn2] at HT2
        have b1' : 0 ≤ n1 ∧ n1 ≤ 1 := by rw [hn1]; cases d1 <;> decide
        have b2' : 0 ≤ n2 ∧ n2 ≤ 1 := by rw [hn2]; cases d2 <;> decide
        have N1 := Lib.hid hn1; have N2 := Lib.hid hn2
        have HT3 := Lib.hid HT2; clear HT HT2 hd1 hd2 hn1 hn2
        have wt : IntKind.i64.wrap (2 * n2) = 2 * n2 := by rw [IntKind.wrap_i64]; omega
        have wu : IntKind.i64.wrap (n1 + 2 * n2) = n1 + 2 * n2 := by rw [IntKind.wrap_i64]; omega
        refine wp_region_noPanic ?_
        refine wp_region_held_drew (S := (fun w' => w'.cell? ⟨b, o, none⟩ = some (.string p))) (by kernel_rfl) (q0) (fun hHeld => ?_)
        refine wpAnyH_take (i := 0) (oi := { dst := some 31, op := Op.move (Operand.tmp 6), type := 102, pos := "l03_codec.go:166", after := #[], guard := none }) (v := ?vb0) rfl (by kernel_rfl) (by kernel_rfl) (by kernel_rfl) (fun _ _ _ h => h) (Or.inl ⟨by rfl, ?hyb0⟩) (by assumption) ?restb0
        case hyb0 => intro w hSw; (try dsimp only at hSw); (first | (go_simp; done) | (go_simp; with_reducible rfl) | (with_reducible rfl))
        try simp only [Act.put, List.setIfInBounds_toArray, List.set_cons_zero, List.set_cons_succ]
        refine wpAnyH_take (i := 1) (oi := { dst := some 32, op := Op.indexAddr 102 (Operand.tmp 31) (Operand.const (Value.int IntKind.i64 0)), type := 0, pos := "l03_codec.go:166", after := #[{ on := 0, ground := Ground.data }], guard := none }) (v := ?vb1) rfl (by kernel_rfl) (by kernel_rfl) (by kernel_rfl) (fun _ _ _ h => h) (Or.inl ⟨by rfl, ?hyb1⟩) (by assumption) ?restb1
        case hyb1 => intro w hSw; (try dsimp only at hSw); (first | (go_simp; done) | (go_simp; with_reducible rfl) | (with_reducible rfl))
        try simp only [Act.put, List.setIfInBounds_toArray, List.set_cons_zero, List.set_cons_succ]
        refine wpAnyH_take (i := 2) (oi := { dst := some 33, op := Op.load 9 (Operand.tmp 32), type := 9, pos := "l03_codec.go:166", after := #[{ on := 1, ground := Ground.data }], guard := none }) (v := ?vb2) rfl (by kernel_rfl) (by kernel_rfl) (by kernel_rfl) (fun _ _ _ h => h) (Or.inl ⟨by rfl, ?hyb2⟩) (by assumption) ?restb2
        case hyb2 => intro w hSw; (try dsimp only at hSw); (first | (go_simp; done) | (go_simp; with_reducible rfl) | (with_reducible rfl))
        try simp only [Act.put, List.setIfInBounds_toArray, List.set_cons_zero, List.set_cons_succ]
        refine wpAnyH_take (i := 3) (oi := { dst := some 34, op := Op.binOp BinOp.eql 9 (Operand.tmp 33) (Operand.const (Value.string { data := #[116, 49] })) 9, type := 4, pos := "l03_codec.go:166", after := #[{ on := 2, ground := Ground.data }], guard := none }) (v := ?vb3) rfl (by kernel_rfl) (by kernel_rfl) (by kernel_rfl) (fun _ _ _ h => h) (Or.inl ⟨by rfl, ?hyb3⟩) (by assumption) ?restb3
        case hyb3 => intro w hSw; (try dsimp only at hSw); (first | (go_simp; done) | (go_simp; with_reducible rfl) | (with_reducible rfl))
        try simp only [Act.put, List.setIfInBounds_toArray, List.set_cons_zero, List.set_cons_succ]
        refine wpAnyH_take (i := 5) (oi := { dst := some 36, op := Op.move (Operand.tmp 6), type := 102, pos := "l03_codec.go:166", after := #[], guard := none }) (v := ?vb5) rfl (by kernel_rfl) (by kernel_rfl) (by kernel_rfl) (fun _ _ _ h => h) (Or.inl ⟨by rfl, ?hyb5⟩) (by assumption) ?restb5
        case hyb5 => intro w hSw; (try dsimp only at hSw); (first | (go_simp; done) | (go_simp; with_reducible rfl) | (with_reducible rfl))
        try simp only [Act.put, List.setIfInBounds_toArray, List.set_cons_zero, List.set_cons_succ]
        refine wpAnyH_take (i := 6) (oi := { dst := some 37, op := Op.indexAddr 102 (Operand.tmp 36) (Operand.const (Value.int IntKind.i64 0)), type := 0, pos := "l03_codec.go:166", after := #[{ on := 5, ground := Ground.data }], guard := none }) (v := ?vb6) rfl (by kernel_rfl) (by kernel_rfl) (by kernel_rfl) (fun _ _ _ h => h) (Or.inl ⟨by rfl, ?hyb6⟩) (by assumption) ?restb6
        case hyb6 => intro w hSw; (try dsimp only at hSw); (first | (go_simp; done) | (go_simp; with_reducible rfl) | (with_reducible rfl))
        try simp only [Act.put, List.setIfInBounds_toArray, List.set_cons_zero, List.set_cons_succ]
        refine wpAnyH_take (i := 7) (oi := { dst := some 38, op := Op.load 9 (Operand.tmp 37), type := 9, pos := "l03_codec.go:166", after := #[{ on := 6, ground := Ground.data }], guard := none }) (v := ?vb7) rfl (by kernel_rfl) (by kernel_rfl) (by kernel_rfl) (fun _ _ _ h => h) (Or.inl ⟨by rfl, ?hyb7⟩) (by assumption) ?restb7
        case hyb7 => intro w hSw; (try dsimp only at hSw); (first | (go_simp; done) | (go_simp; with_reducible rfl) | (with_reducible rfl))
        try simp only [Act.put, List.setIfInBounds_toArray, List.set_cons_zero, List.set_cons_succ]
        refine wpAnyH_take (i := 8) (oi := { dst := some 39, op := Op.binOp BinOp.eql 9 (Operand.tmp 38) (Operand.const (Value.string { data := #[116, 50] })) 9, type := 4, pos := "l03_codec.go:166", after := #[{ on := 7, ground := Ground.data }], guard := none }) (v := ?vb8) rfl (by kernel_rfl) (by kernel_rfl) (by kernel_rfl) (fun _ _ _ h => h) (Or.inl ⟨by rfl, ?hyb8⟩) (by assumption) ?restb8
        case hyb8 => intro w hSw; (try dsimp only at hSw); (first | (go_simp; done) | (go_simp; with_reducible rfl) | (with_reducible rfl))
        try simp only [Act.put, List.setIfInBounds_toArray, List.set_cons_zero, List.set_cons_succ]
        refine wpAnyH_ready (rs := [4]) (by kernel_rfl) (by simp) ?_
        refine AllReadyH.cons (o := { dst := some 35, op := Op.call { callee := Callee.value (Operand.func 85), args := #[Operand.tmp 34], argTypes := #[4] }, type := 3, pos := "l03_codec.go:166", after := #[{ on := 3, ground := Ground.data }], guard := none }) rfl (fun K hK => ?_) AllReadyH.nil
        go_simp
        refine (l01Bit_n d1 n1 N1.out _).mono ?_
        rintro e w9 ⟨rfl, rfl⟩
        go_wp2_with fail
        refine hK.out _ _ (q0) (fun hHeld => ?_)
        clear hK K
        try simp only [Act.put, List.setIfInBounds_toArray, List.set_cons_zero, List.set_cons_succ]
        refine wpAnyH_ready (rs := [9]) (by kernel_rfl) (by simp) ?_
        refine AllReadyH.cons (o := { dst := some 40, op := Op.call { callee := Callee.value (Operand.func 85), args := #[Operand.tmp 39], argTypes := #[4] }, type := 3, pos := "l03_codec.go:166", after := #[{ on := 8, ground := Ground.data }, { on := 4, ground := Ground.chain }], guard := none }) rfl (fun K hK => ?_) AllReadyH.nil
        go_simp
        refine (l01Bit_n d2 n2 N2.out _).mono ?_
        rintro e w9 ⟨rfl, rfl⟩
        go_wp2_with fail
        refine hK.out _ _ (q0) (fun hHeld => ?_)
        clear hK K
        try simp only [Act.put, List.setIfInBounds_toArray, List.set_cons_zero, List.set_cons_succ]
        refine wpAnyH_take (i := 10) (oi := { dst := some 41, op := Op.binOp BinOp.mul 3 (Operand.const (Value.int IntKind.i64 2)) (Operand.tmp 40) 3, type := 3, pos := "l03_codec.go:166", after := #[{ on := 9, ground := Ground.data }], guard := none }) (v := ?vb10) rfl (by kernel_rfl) (by kernel_rfl) (by kernel_rfl) (fun _ _ _ h => h) (Or.inl ⟨by rfl, ?hyb10⟩) (by assumption) ?restb10
        case hyb10 => intro w hSw; (try dsimp only at hSw); (first | (go_simp; done) | (go_simp; with_reducible rfl) | (with_reducible rfl))
        try simp only [Act.put, List.setIfInBounds_toArray, List.set_cons_zero, List.set_cons_succ]
        refine wpAnyH_take (i := 11) (oi := { dst := some 42, op := Op.binOp BinOp.add 3 (Operand.tmp 35) (Operand.tmp 41) 3, type := 3, pos := "l03_codec.go:166", after := #[{ on := 4, ground := Ground.data }, { on := 10, ground := Ground.data }], guard := none }) (v := ?vb11) rfl (by kernel_rfl) (by kernel_rfl) (by kernel_rfl) (fun _ _ _ h => h) (Or.inl ⟨by rfl, ?hyb11⟩) (by assumption) ?restb11
        case hyb11 => intro w hSw; (try dsimp only at hSw); (first | (go_simp; done) | (go_simp; with_reducible rfl) | (with_reducible rfl))
        try simp only [Act.put, List.setIfInBounds_toArray, List.set_cons_zero, List.set_cons_succ]
        refine wpAnyH_take (i := 12) (oi := { dst := some 7, op := Op.assign (Operand.tmp 42), type := 3, pos := "l03_codec.go:166", after := #[{ on := 11, ground := Ground.data }, { on := 9, ground := Ground.chain }, { on := 0, ground := Ground.phase }, { on := 1, ground := Ground.phase }, { on := 2, ground := Ground.phase }, { on := 3, ground := Ground.phase }, { on := 4, ground := Ground.phase }, { on := 5, ground := Ground.phase }, { on := 6, ground := Ground.phase }, { on := 7, ground := Ground.phase }, { on := 8, ground := Ground.phase }, { on := 9, ground := Ground.phase }, { on := 10, ground := Ground.phase }, { on := 11, ground := Ground.phase }], guard := none }) (v := ?vb12) rfl (by kernel_rfl) (by kernel_rfl) (by kernel_rfl) (fun _ _ _ h => h) (Or.inl ⟨by rfl, ?hyb12⟩) (by assumption) ?restb12
        case hyb12 => intro w hSw; (try dsimp only at hSw); (first | (go_simp; done) | (go_simp; with_reducible rfl) | (with_reducible rfl))
        try simp only [Act.put, List.setIfInBounds_toArray, List.set_cons_zero, List.set_cons_succ]
        refine wpAnyH_done (by kernel_rfl) ?_ _
        refine NoPanic.normal ?_
        have b1 : Below w.heap.size w w1.drew := hb1.drew
        have q1' : w1.drew.cell? ⟨b, o + 1, none⟩ = some (.string last) := q1
        clear hb1 q0 q1 hHeld
        rw [← HT3.out]
        have T0 : 0 ≤ tierV p ∧ tierV p ≤ 3 := by rw [HT3.out]; omega
        clear wt wu e1 e2 HT3 N1 N2
        generalize w1.drew = w2 at *
        have hkf : ∀ t n m, IsKey key t n m → tierV p = t ∧ last.extract 0 6 = sixT n.toNat ∧ last.extract 7 13 = sixT m.toNat ∧ KeyNP t n m := fun t n m h => by
          obtain ⟨e1, e2⟩ := HFX.out t n m h
          injection e1 with e1 _
          subst e1 e2
          exact ⟨tier_head h.1.1 h.1.2.1, tail_left _ _, tail_right _ _, h.1⟩
        have HKF := Lib.hid hkf; clear hkf HFX
        generalize tierV p = tv at *
        go_wp2_with fail
        refine (FL.out _).mono ?_
        rintro e w3 ⟨v, fo, rfl, hv, rfl⟩
        have HV := Lib.hid hv; clear hv FL
        go_wp2_with fail
        refine (FR.out _).mono ?_
        rintro e w3 ⟨u, fi, rfl, hu, rfl⟩
        have HU := Lib.hid hu; clear hu FR q1'
        cases fo
        · have HX := Lib.hid (show ∀ t n m, ¬ IsKey key t n m from fun t n m h => by
            obtain ⟨_, h2, _, h4⟩ := HKF.out t n m h
            have := (HV.out.2.2.2 n.toNat (by have := h4.2.2.2.1; omega) h2).1
            cases this)
          clear HKF HV HU
          go_wp2
          exact bodyPost_ret (v := .tuple #[.int .i64 0, .int .i64 0, .int .i64 0, .bool false]) (by simp [results, Tryz.results57, go_sem]) rfl (KeyEnd.no HX.out b1)
        cases fi
        · have HX := Lib.hid (show ∀ t n m, ¬ IsKey key t n m from fun t n m h => by
            obtain ⟨_, _, h3, h4⟩ := HKF.out t n m h
            have := (HU.out.2.2.2 m.toNat (by have := h4.2.2.2.2.2; omega) h3).1
            cases this)
          clear HKF HV HU
          go_wp2
          exact bodyPost_ret (v := .tuple #[.int .i64 0, .int .i64 0, .int .i64 0, .bool false]) (by simp [results, Tryz.results57, go_sem]) rfl (KeyEnd.no HX.out b1)
        have hall : ∀ t n m, IsKey key t n m → tv = t ∧ v = n ∧ u = m ∧ KeyNP tv v u := fun t n m h => by
          obtain ⟨h1, h2, h3, h4⟩ := HKF.out t n m h
          have a1 := (HV.out.2.2.2 n.toNat (by have := h4.2.2.2.1; omega) h2).2
          have a2 := (HU.out.2.2.2 m.toNat (by have := h4.2.2.2.2.2; omega) h3).2
          have a3 : v = n := by have := h4.2.2.1; omega
          have a4 : u = m := by have := h4.2.2.2.2.1; omega
          subst h1 a3 a4
          exact ⟨rfl, rfl, rfl, h4⟩
        have HA := Lib.hid hall; clear hall HKF HV HU
        go_wp2_with fail
        refine (l03KeyOK_any tv v u w2).mono ?_
        rintro e w3 ⟨kb, hkb, rfl, rfl⟩
        cases kb
        · have HX := Lib.hid (show ∀ t n m, ¬ IsKey key t n m from fun t n m h => by
            have := hkb.2 (HA.out t n m h).2.2.2
            cases this)
          clear HA hkb
          go_wp2
          exact bodyPost_ret (v := .tuple #[.int .i64 0, .int .i64 0, .int .i64 0, .bool false]) (by simp [results, Tryz.results57, go_sem]) rfl (KeyEnd.no HX.out b1)
        have HP := Lib.hid (hkb.1 rfl); clear hkb
        go_wp2_with fail
        refine (l03Key_any tv v u HP.out w2).mono ?_
        rintro e w3 ⟨rfl, hb3⟩
        have b3 := bnext b1 hb3
        by_cases hk2 : keyT tv.toNat v.toNat u.toNat = key
        · have HY := Lib.hid (show IsKey key tv v u from ⟨HP.out, hk2.symm⟩)
          have de : ((keyT tv.toNat v.toNat u.toNat).toList == key.toList) = true := by rw [hk2]; simp
          have dn : ((keyT tv.toNat v.toNat u.toNat).toList != key.toList) = false := by rw [hk2]; simp
          clear HA hk2 hb3 HP
          generalize keyT tv.toNat v.toNat u.toNat = KK at *
          go_wp2
          exact bodyPost_ret (v := .tuple #[.int .i64 tv, .int .i64 v, .int .i64 u, .bool true]) (by simp [results, Tryz.results57, go_sem]) rfl (KeyEnd.yes HY.out b3)
        · have HX := Lib.hid (show ∀ t n m, ¬ IsKey key t n m from fun t n m h => by
            obtain ⟨rfl, rfl, rfl, _⟩ := HA.out t n m h
            exact hk2 h.2.symm)
          have hne : (keyT tv.toNat v.toNat u.toNat).toList ≠ key.toList := fun h => hk2 (by
            rw [ByteArray.toList_eq, ByteArray.toList_eq] at h
            exact ba_eq h)
          have de : ((keyT tv.toNat v.toNat u.toNat).toList == key.toList) = false := by simpa using hne
          have dn : ((keyT tv.toNat v.toNat u.toNat).toList != key.toList) = true := by simpa using hne
          clear HA hk2 hb3 HP hne
          generalize keyT tv.toNat v.toNat u.toNat = KK at *
          go_wp2
          exact bodyPost_ret (v := .tuple #[.int .i64 0, .int .i64 0, .int .i64 0, .bool false]) (by simp [results, Tryz.results57, go_sem]) rfl (KeyEnd.no HX.out b3)
      · have d6 : ((last[6].toNat : Int) != 45) = true := by
          simp only [bne_iff_ne, ne_eq]
          intro h
          exact h6 (UInt8.toNat_inj.1 (by have e : (45 : UInt8).toNat = 45 := rfl
                                          omega))
        have HX := Lib.hid (show ∀ t n m, ¬ IsKey key t n m from fun t n m h => by
          obtain ⟨_, rfl⟩ := HFX.out t n m h
          exact h6 (tail_dash _ _ _))
        clear HFX h6
        go_wp2
        exact bodyPost_ret (v := .tuple #[.int .i64 0, .int .i64 0, .int .i64 0, .bool false]) (by simp [results, Tryz.results57, go_sem]) rfl (KeyEnd.no HX.out hb1)
    · have d13 : ((last.size : Int) != 13) = true := by simp; omega
      have HX := Lib.hid (show ∀ t n m, ¬ IsKey key t n m from fun t n m h => by
        obtain ⟨_, rfl⟩ := HFX.out t n m h
        exact h13 (tail_size _ _))
      clear HFX h13
      go_wp2
      exact bodyPost_ret (v := .tuple #[.int .i64 0, .int .i64 0, .int .i64 0, .bool false]) (by simp [results, Tryz.results57, go_sem]) rfl (KeyEnd.no HX.out hb1)

end Go.Proofs.YtpfanmcjlfdaiaaGreatDoorR

/- Contracts of the program's scanner.tier and of impl.ReadDataKey: just of a data key the tier and the numbers. Conditions: the program's table of paths is as its text lays it; a text's length. -/
namespace Go.Proofs.YtpfanmcjlfdaiaaGreatDoorR
open Go.ChangeShapes Go.WideShapes Go.ChangeAt Go.RowKit
set_option linter.unusedVariables false
set_option linter.unusedSimpArgs false

/-- what tier does -/
def Tiered (R : List UInt8) (a : Nat) (x : Value) (v a' : Nat) (x' : Value) : Prop := (x' = x ∧ ∃ R', v < 3 ∧ a' = a + (pathT v).size ∧ R = (pathT v).data.toList ++ R') ∨ (Bad x' ∧ a' = a ∧ ∀ k R', k < 3 → R ≠ (pathT k).data.toList ++ R')

theorem path_size (k : Nat) : (pathT k).size ≤ 4 := by unfold pathT; split <;> decide

theorem ixP0 (P0 P1 P2 : ByteArray) (w : World) : (Instr.index 184 (.agg #[.string P0, .string P1, .string P2]) (.int .i64 0)).run Tryz.prog w = .ok (.string P0) w := by kernel_rfl

theorem ixP1 (P0 P1 P2 : ByteArray) (w : World) : (Instr.index 184 (.agg #[.string P0, .string P1, .string P2]) (.int .i64 1)).run Tryz.prog w = .ok (.string P1) w := by kernel_rfl

theorem ixP2 (P0 P1 P2 : ByteArray) (w : World) : (Instr.index 184 (.agg #[.string P0, .string P1, .string P2]) (.int .i64 2)).run Tryz.prog w = .ok (.string P2) w := by kernel_rfl

set_option maxRecDepth 100000 in
theorem tier_any (B g a : Nat) (t : ByteArray) (x : Value) (U R : List UInt8) (w : World) (h : Scan w g t a x) (hx : ErrV x) (hB : B ≤ g) (hp : Parted t a U R) (hs : t.size ≤ 1048576) (hpa : Paths w) :
    Calls Tryz.prog 133 #[.pointer (some ⟨g, 0, none⟩)] w fun e w' => ∃ (v a' : Nat) (x' : Value), e = .returned (.int .i64 v) ∧ Scan w' g t a' x' ∧ Tiered R a x v a' x' ∧ Below B w w' := by
  have Hx := Lib.hid hx; clear hx
  have H := Lib.hid h; clear h
  have hle := hp.le
  have hR := hp.rest
  have p0 := hpa 0 (by omega)
  have p1 := hpa 1 (by omega)
  have p2 := hpa 2 (by omega)
  clear hpa hp
  have HC := Lib.hid (show ∀ k, k < 3 → ∀ b, Lib.hasPrefix R (pathT k).data.toList = b → (b = true → Tiered R a x k (a + (pathT k).size) x) ∧ (b = false → ∀ R', R ≠ (pathT k).data.toList ++ R') from fun k hk b hb => ⟨fun h => by
    rw [h] at hb
    obtain ⟨R', e⟩ := pre_iff.1 hb
    exact Or.inl ⟨rfl, R', hk, rfl, e⟩, fun h R' e => by
    rw [h, pre_iff.2 ⟨R', e⟩] at hb
    cases hb⟩)
  have z0 := path_size 0
  have z1 := path_size 1
  have z2 := path_size 2
  rw [← hR] at HC
  have hr := fun w1 (h1 : Scan w1 g t a x) => rest_any g a t x w1 h1 hle hs
  have Hr := Lib.hid hr; clear hr
  have HE := Lib.hid (show ∀ y, Bad y → (∀ k, k < 3 → ∀ R', (t.extract a t.size).data.toList ≠ (pathT k).data.toList ++ R') → Tiered (t.extract a t.size).data.toList a x 0 a y from fun y hy h => Or.inr ⟨hy, rfl, fun k R' hk => h k hk R'⟩)
  rw [← hR]
  clear hR
  generalize t.extract a t.size = X at *
  obtain ⟨P0, hP0⟩ : ∃ P, P = pathT 0 := ⟨_, rfl⟩
  obtain ⟨P1, hP1⟩ : ∃ P, P = pathT 1 := ⟨_, rfl⟩
  obtain ⟨P2, hP2⟩ : ∃ P, P = pathT 2 := ⟨_, rfl⟩
  rw [← hP0] at p0 z0
  rw [← hP1] at p1 z1
  rw [← hP2] at p2 z2
  have HP0 := Lib.hid hP0; have HP1 := Lib.hid hP1; have HP2 := Lib.hid hP2
  clear hP0 hP1 hP2
  go_enter Tryz.func133, Tryz.ntmps133
  go_wp2_with fail
  go_loopw [6] (fun i wr => ∃ j : Nat, j ≤ 3 ∧ i = .int .i64 j ∧ Hid (Scan wr g t a x) ∧ Hid (∀ k, k < j → ∀ R', X.data.toList ≠ (pathT k).data.toList ++ R') ∧ Below B w wr) (fun i _ => 3 - (intOf i).toNat)
  case atStart => exact ⟨0, by omega, rfl, H, Lib.hid (fun k hk => by omega), Below.refl _ _⟩
  case round =>
    obtain ⟨j, hj, rfl, HS, HN, hb⟩ := hrel
    rcases (show j = 0 ∨ j = 1 ∨ j = 2 ∨ j = 3 by omega) with rfl | rfl | rfl | rfl
    · cases hq : Lib.hasPrefix X.data.toList P0.data.toList
      · have HN2 := Lib.hid (show ∀ k, k < 1 → ∀ R', X.data.toList ≠ (pathT k).data.toList ++ R' from fun k hk R' => by
          by_cases e : k = 0
          · subst e
            exact (HC.out 0 (by omega) _ rfl).2 (by rw [← HP0.out, hq]) R'
          · exact HN.out k (by omega) R')
        clear HN
        have ix := ixP0 P0 P1 P2
        go_wp2_with fail
        refine (Hr.out wr HS.out).mono ?_
        rintro e w1 ⟨rfl, hb1⟩
        have HS1 := Lib.hid (HS.out.below hb1)
        have b1 : Below B w w1 := hb.trans (hb1.mono (Nat.le_of_lt (Nat.lt_of_le_of_lt hB HS.out.lt)))
        go_wp2_with fail
        refine (sh_strings_HasPrefix X P0 w1).mono ?_
        rw [hq]
        rintro e w2 ⟨rfl, rfl⟩
        clear HS hb1 hq
        go_wp2
        refine ⟨⟨1, by omega, by go_num, HS1, HN2, b1⟩, by simp [intOf]⟩
      · have HT := Lib.hid (show Tiered X.data.toList a x 0 (a + P0.size) x by
          have := (HC.out 0 (by omega) _ rfl).1 (by rw [← HP0.out, hq])
          rwa [← HP0.out] at this)
        have wa : IntKind.i64.wrap ((a : Int) + (P0.size : Int)) = ((a + P0.size : Nat) : Int) := by rw [IntKind.wrap_i64]; omega
        clear HN
        have ix := ixP0 P0 P1 P2
        go_wp2_with fail
        refine (Hr.out wr HS.out).mono ?_
        rintro e w1 ⟨rfl, hb1⟩
        have s1 := HS.out.below hb1
        have b1 : Below B w w1 := hb.trans (hb1.mono (Nat.le_of_lt (Nat.lt_of_le_of_lt hB HS.out.lt)))
        go_wp2_with fail
        refine (sh_strings_HasPrefix X P0 w1).mono ?_
        rw [hq]
        rintro e w2 ⟨rfl, rfl⟩
        have H3 := Lib.hid (s1.go (a + P0.size))
        obtain ⟨c0, c1, c2, fz, hlt⟩ := s1
        have f1 := fz 1
        have b3 := Lib.hid (bset' b1 (p := ⟨g, 1, none⟩) hB (.int .i64 ((a + P0.size : Nat) : Int)))
        clear hb1 b1 hq fz c2 c0 HS
        go_wp2
        go_ret
        refine ⟨0, a + P0.size, x, rfl, ?_, HT.out, ?_⟩
        · exact H3.out
        · exact b3.out
    · cases hq : Lib.hasPrefix X.data.toList P1.data.toList
      · have HN2 := Lib.hid (show ∀ k, k < 2 → ∀ R', X.data.toList ≠ (pathT k).data.toList ++ R' from fun k hk R' => by
          by_cases e : k = 1
          · subst e
            exact (HC.out 1 (by omega) _ rfl).2 (by rw [← HP1.out, hq]) R'
          · exact HN.out k (by omega) R')
        clear HN
        have ix := ixP1 P0 P1 P2
        go_wp2_with fail
        refine (Hr.out wr HS.out).mono ?_
        rintro e w1 ⟨rfl, hb1⟩
        have HS1 := Lib.hid (HS.out.below hb1)
        have b1 : Below B w w1 := hb.trans (hb1.mono (Nat.le_of_lt (Nat.lt_of_le_of_lt hB HS.out.lt)))
        go_wp2_with fail
        refine (sh_strings_HasPrefix X P1 w1).mono ?_
        rw [hq]
        rintro e w2 ⟨rfl, rfl⟩
        clear HS hb1 hq
        go_wp2
        refine ⟨⟨2, by omega, by go_num, HS1, HN2, b1⟩, by simp [intOf]⟩
      · have HT := Lib.hid (show Tiered X.data.toList a x 1 (a + P1.size) x by
          have := (HC.out 1 (by omega) _ rfl).1 (by rw [← HP1.out, hq])
          rwa [← HP1.out] at this)
        have wa : IntKind.i64.wrap ((a : Int) + (P1.size : Int)) = ((a + P1.size : Nat) : Int) := by rw [IntKind.wrap_i64]; omega
        clear HN
        have ix := ixP1 P0 P1 P2
        go_wp2_with fail
        refine (Hr.out wr HS.out).mono ?_
        rintro e w1 ⟨rfl, hb1⟩
        have s1 := HS.out.below hb1
        have b1 : Below B w w1 := hb.trans (hb1.mono (Nat.le_of_lt (Nat.lt_of_le_of_lt hB HS.out.lt)))
        go_wp2_with fail
        refine (sh_strings_HasPrefix X P1 w1).mono ?_
        rw [hq]
        rintro e w2 ⟨rfl, rfl⟩
        have H3 := Lib.hid (s1.go (a + P1.size))
        obtain ⟨c0, c1, c2, fz, hlt⟩ := s1
        have f1 := fz 1
        have b3 := Lib.hid (bset' b1 (p := ⟨g, 1, none⟩) hB (.int .i64 ((a + P1.size : Nat) : Int)))
        clear hb1 b1 hq fz c2 c0 HS
        go_wp2
        go_ret
        refine ⟨1, a + P1.size, x, rfl, ?_, HT.out, ?_⟩
        · exact H3.out
        · exact b3.out
    · cases hq : Lib.hasPrefix X.data.toList P2.data.toList
      · have HN2 := Lib.hid (show ∀ k, k < 3 → ∀ R', X.data.toList ≠ (pathT k).data.toList ++ R' from fun k hk R' => by
          by_cases e : k = 2
          · subst e
            exact (HC.out 2 (by omega) _ rfl).2 (by rw [← HP2.out, hq]) R'
          · exact HN.out k (by omega) R')
        clear HN
        have ix := ixP2 P0 P1 P2
        go_wp2_with fail
        refine (Hr.out wr HS.out).mono ?_
        rintro e w1 ⟨rfl, hb1⟩
        have HS1 := Lib.hid (HS.out.below hb1)
        have b1 : Below B w w1 := hb.trans (hb1.mono (Nat.le_of_lt (Nat.lt_of_le_of_lt hB HS.out.lt)))
        go_wp2_with fail
        refine (sh_strings_HasPrefix X P2 w1).mono ?_
        rw [hq]
        rintro e w2 ⟨rfl, rfl⟩
        clear HS hb1 hq
        go_wp2
        refine ⟨⟨3, by omega, by go_num, HS1, HN2, b1⟩, by simp [intOf]⟩
      · have HT := Lib.hid (show Tiered X.data.toList a x 2 (a + P2.size) x by
          have := (HC.out 2 (by omega) _ rfl).1 (by rw [← HP2.out, hq])
          rwa [← HP2.out] at this)
        have wa : IntKind.i64.wrap ((a : Int) + (P2.size : Int)) = ((a + P2.size : Nat) : Int) := by rw [IntKind.wrap_i64]; omega
        clear HN
        have ix := ixP2 P0 P1 P2
        go_wp2_with fail
        refine (Hr.out wr HS.out).mono ?_
        rintro e w1 ⟨rfl, hb1⟩
        have s1 := HS.out.below hb1
        have b1 : Below B w w1 := hb.trans (hb1.mono (Nat.le_of_lt (Nat.lt_of_le_of_lt hB HS.out.lt)))
        go_wp2_with fail
        refine (sh_strings_HasPrefix X P2 w1).mono ?_
        rw [hq]
        rintro e w2 ⟨rfl, rfl⟩
        have H3 := Lib.hid (s1.go (a + P2.size))
        obtain ⟨c0, c1, c2, fz, hlt⟩ := s1
        have f1 := fz 1
        have b3 := Lib.hid (bset' b1 (p := ⟨g, 1, none⟩) hB (.int .i64 ((a + P2.size : Nat) : Int)))
        clear hb1 b1 hq fz c2 c0 HS
        go_wp2
        go_ret
        refine ⟨2, a + P2.size, x, rfl, ?_, HT.out, ?_⟩
        · exact H3.out
        · exact b3.out
    · go_wp2_with fail
      refine (fail_any B g a t _ x wr HS.out Hx.out hB).mono ?_
      rintro e w3 ⟨rfl, y, hy, hs3, hb3⟩
      have H3 := Lib.hid hs3; clear hs3
      have HT := Lib.hid (HE.out y hy HN.out); clear hy
      have b3 := hb.trans hb3
      clear hb3 HS HN
      go_wp2
      go_ret
      exact ⟨0, a, y, rfl, H3.out, HT.out, b3⟩

end Go.Proofs.YtpfanmcjlfdaiaaGreatDoorR

/- Contracts of impl.ReadDataKey and of the model's: just of a data key the tier and the numbers. Conditions: the program's table of paths is as its text lays it; a text's length. -/
namespace Go.Proofs.YtpfanmcjlfdaiaaGreatDoorR
open Go.ChangeShapes Go.WideShapes Go.ChangeAt Go.RowKit
set_option linter.unusedVariables false
set_option linter.unusedSimpArgs false

def NoKey (key : ByteArray) : Prop := ∀ t n m, ¬ IsKey key t n m

/-- what ReadDataKey answers -/
def KeyCode (key : ByteArray) (t n m cd : Int) : Prop := (65536 < key.size ∧ t = 0 ∧ n = 0 ∧ m = 0 ∧ cd = 2) ∨ (key.size ≤ 65536 ∧ IsKey key t n m ∧ cd = 0) ∨ (key.size ≤ 65536 ∧ NoKey key ∧ t = 0 ∧ n = 0 ∧ m = 0 ∧ cd = 19)

def pathL (k : Nat) : List UInt8 := (pathT k).data.toList
def sixL (k : Nat) : List UInt8 := (sixT k).data.toList

theorem key_list {key : ByteArray} {t n m : Int} (h : IsKey key t n m) : key.data.toList = pathL t.toNat ++ (sixL n.toNat ++ ([45] ++ sixL m.toNat)) ∧ t.toNat < 3 := by
  refine ⟨?_, by have := h.1.2.1; omega⟩
  rw [h.2]
  simp [keyT, pathL, sixL, ByteArray.data_append, Array.toList_append]

theorem path_one {k l : Nat} {A B : List UInt8} (hk : k < 3) (hl : l < 3) (h : pathL k ++ A = pathL l ++ B) : k = l ∧ A = B := by
  match k, hk, l, hl with
  | 0, _, 0, _ => exact ⟨rfl, List.append_cancel_left h⟩
  | 1, _, 1, _ => exact ⟨rfl, List.append_cancel_left h⟩
  | 2, _, 2, _ => exact ⟨rfl, List.append_cancel_left h⟩
  | 0, _, 1, _ => simp [pathL, pathT] at h
  | 0, _, 2, _ => simp [pathL, pathT] at h
  | 1, _, 0, _ => simp [pathL, pathT] at h
  | 1, _, 2, _ => simp [pathL, pathT] at h
  | 2, _, 0, _ => simp [pathL, pathT] at h
  | 2, _, 1, _ => simp [pathL, pathT] at h

theorem sixL_len (k : Nat) : (sixL k).length = 6 := rfl

theorem six_one {k l : Nat} {A B : List UInt8} (hk : k ≤ 999999) (hl : l ≤ 999999) (h : sixL k ++ A = sixL l ++ B) : k = l ∧ A = B := by
  have h1 := congrArg (List.take 6) h
  rw [List.take_left' (sixL_len k), List.take_left' (sixL_len l)] at h1
  have h2 := congrArg dvalK h1
  unfold sixL at h2
  rw [dvalK_six hk, dvalK_six hl] at h2
  subst h2
  exact ⟨rfl, List.append_cancel_left h⟩

theorem parted_of {t : ByteArray} {a : Nat} (h : a ≤ t.size) : ∃ U R, Parted t a U R := by
  have e : t.size = t.data.toList.length := by rw [Array.length_toList]; rfl
  exact ⟨t.data.toList.take a, t.data.toList.drop a, (List.take_append_drop _ _).symm, by rw [List.length_take]; omega⟩

/-- how far a key was read: what was read so far stands in U -/
def StK (key : ByteArray) (a : Nat) (x : Value) (G : List UInt8 → Prop) (U R : List UInt8) : Prop := Parted key a U R ∧ ((x = .nilIface ∧ G U) ∨ (Bad x ∧ NoKey key))

theorem StK.errV {key : ByteArray} {a : Nat} {x : Value} {G : List UInt8 → Prop} {U R : List UInt8} (h : StK key a x G U R) : ErrV x := by
  rcases h.2 with h | h
  · exact Or.inl h.1
  · exact Or.inr h.1

theorem st1 {key : ByteArray} {v a : Nat} {x : Value} (h : Tiered key.data.toList 0 .nilIface v a x) : ∃ U R, StK key a x (fun U => v < 3 ∧ U = pathL v) U R := by
  rcases h with ⟨rfl, R, hv, rfl, e⟩ | ⟨hb, rfl, hn⟩
  · exact ⟨pathL v, R, ⟨e, by rw [Nat.zero_add]; rfl⟩, Or.inl ⟨rfl, hv, rfl⟩⟩
  · exact ⟨[], key.data.toList, ⟨rfl, rfl⟩, Or.inr ⟨hb, fun t n m hk => hn _ _ (key_list hk).2 (key_list hk).1⟩⟩

theorem st2 {key : ByteArray} {v n a a' : Nat} {x x' : Value} {U R : List UInt8} (h : StK key a x (fun U => v < 3 ∧ U = pathL v) U R) (hk : Keyed key R a x n a' x') : ∃ U R, StK key a' x' (fun U => v < 3 ∧ n ≤ 999999 ∧ U = pathL v ++ sixL n) U R := by
  obtain ⟨hp, hx⟩ := h
  rcases hk with ⟨rfl, rfl, hn, R', rfl⟩ | ⟨hb, hle, hn⟩
  · refine ⟨_, _, hp.on, ?_⟩
    rcases hx with ⟨rfl, hv, rfl⟩ | hx
    · exact Or.inl ⟨rfl, hv, hn, rfl⟩
    · exact Or.inr hx
  · obtain ⟨U', R', hp'⟩ := parted_of hle
    refine ⟨U', R', hp', Or.inr ⟨hb, ?_⟩⟩
    rcases hx with ⟨rfl, hv, rfl⟩ | ⟨_, hx⟩
    · intro t i m hk
      obtain ⟨e, h3⟩ := key_list hk
      rw [hp.1] at e
      exact hn _ _ (path_one hv h3 e).2
    · exact hx

theorem st3 {key : ByteArray} {v n a a' : Nat} {x x' : Value} {U R : List UInt8} (h : StK key a x (fun U => v < 3 ∧ n ≤ 999999 ∧ U = pathL v ++ sixL n) U R) (hk : Marked key ⟨#[45]⟩ a x R a' x') : ∃ U R, StK key a' x' (fun U => v < 3 ∧ n ≤ 999999 ∧ U = pathL v ++ sixL n ++ [45]) U R := by
  obtain ⟨hp, hx⟩ := h
  rcases hk with ⟨rfl, rfl, R', rfl⟩ | ⟨hb, rfl, hn⟩
  · refine ⟨_, _, hp.on, ?_⟩
    rcases hx with ⟨rfl, hv, hn, rfl⟩ | hx
    · exact Or.inl ⟨rfl, hv, hn, rfl⟩
    · exact Or.inr hx
  · refine ⟨U, R, hp, Or.inr ⟨hb, ?_⟩⟩
    rcases hx with ⟨rfl, hv, h6, rfl⟩ | ⟨_, hx⟩
    · intro t i m hk
      obtain ⟨e, h3⟩ := key_list hk
      rw [hp.1, List.append_assoc] at e
      exact hn _ (six_one h6 (by have := hk.1.2.2.2.1; omega) (path_one hv h3 e).2).2
    · exact hx

theorem st4 {key : ByteArray} {v n m a a' : Nat} {x x' : Value} {U R : List UInt8} (h : StK key a x (fun U => v < 3 ∧ n ≤ 999999 ∧ U = pathL v ++ sixL n ++ [45]) U R) (hk : Keyed key R a x m a' x') : ∃ U R, StK key a' x' (fun U => v < 3 ∧ n ≤ 999999 ∧ m ≤ 999999 ∧ U = pathL v ++ sixL n ++ [45] ++ sixL m) U R := by
  obtain ⟨hp, hx⟩ := h
  rcases hk with ⟨rfl, rfl, hm, R', rfl⟩ | ⟨hb, hle, hn⟩
  · refine ⟨_, _, hp.on, ?_⟩
    rcases hx with ⟨rfl, hv, hn, rfl⟩ | hx
    · exact Or.inl ⟨rfl, hv, hn, hm, rfl⟩
    · exact Or.inr hx
  · obtain ⟨U', R', hp'⟩ := parted_of hle
    refine ⟨U', R', hp', Or.inr ⟨hb, ?_⟩⟩
    rcases hx with ⟨rfl, hv, h6, rfl⟩ | ⟨_, hx⟩
    · intro t i m hk
      obtain ⟨e, h3⟩ := key_list hk
      rw [hp.1, List.append_assoc, List.append_assoc] at e
      exact hn _ _ (List.append_cancel_left (six_one h6 (by have := hk.1.2.2.2.1; omega) (path_one hv h3 e).2).2)
    · exact hx

theorem st_end {key : ByteArray} {v n m a : Nat} {U R : List UInt8} (h : StK key a .nilIface (fun U => v < 3 ∧ n ≤ 999999 ∧ m ≤ 999999 ∧ U = pathL v ++ sixL n ++ [45] ++ sixL m) U R) : (a = key.size → IsKey key v n m) ∧ (a ≠ key.size → NoKey key) := by
  obtain ⟨hp, hx⟩ := h
  have hx' : v < 3 ∧ n ≤ 999999 ∧ m ≤ 999999 ∧ U = pathL v ++ sixL n ++ [45] ++ sixL m := by
    rcases hx with hx | ⟨⟨s, i, e⟩, _⟩
    · exact hx.2
    · cases e
  clear hx
  have hz := hp.size
  obtain ⟨hv, hn, hm, rfl⟩ := hx'
  refine ⟨fun e => ?_, fun e t i j hk => ?_⟩
  · obtain rfl : R = [] := List.length_eq_zero_iff.1 (by omega)
    refine ⟨⟨by omega, by omega, by omega, by omega, by omega, by omega⟩, ?_⟩
    apply ByteArray.ext
    apply Array.toList_inj.1
    rw [hp.1]
    simp [keyT, pathL, sixL, ByteArray.data_append, Array.toList_append]
  · obtain ⟨e1, h3⟩ := key_list hk
    rw [hp.1, List.append_assoc, List.append_assoc, List.append_assoc] at e1
    have e2 := congrArg List.length (path_one hv h3 e1).2
    simp [sixL_len] at e2
    omega

set_option maxRecDepth 100000 in
theorem readKey_any (key : ByteArray) (w : World) (hk : key.size ≤ 2 ^ 63 - 1) (hp : Paths w) (hz : 1 < w.heap.size) : Calls Tryz.prog 116 #[.string key] w fun e w' => ∃ t n m cd, e = .returned (.tuple #[.int .i64 t, .int .i64 n, .int .i64 m, .int .i64 cd]) ∧ KeyCode key t n m cd ∧ Below w.heap.size w w' := by
  have Hp := Lib.hid hp; clear hp
  have cW : (w.alloc (.cells #[.string key] 9)).cell? ⟨w.heap.size, 0, none⟩ = some (.string key) := by simp
  have CW := Lib.hid cW; clear cW
  have bW : Below w.heap.size w (w.alloc (.cells #[.string key] 9)) := bal (Below.refl _ _) _
  go_enter Tryz.func116, Tryz.ntmps116
  go_wp2_with fail
  refine (tooLong_any w.heap.size key _ CW.out hk).mono ?_
  rintro e w0 ⟨rfl, rfl⟩
  have sW : w.heap.size < (w.alloc (.cells #[.string key] 9)).heap.size := by simp
  generalize w.alloc (.cells #[.string key] 9) = w0 at *
  clear CW
  cases hl : decide (65536 < (key.size : Int))
  · have hs : key.size ≤ 65536 := by simp at hl; omega
    clear hl hk
    go_wp2_with fail
    have hSc := Scan.new w0 key 174
    have hb1 : Below w.heap.size w (w0.alloc (.cells #[.string key, .int .i64 0, .nilIface] 174)) := bal bW _
    generalize w0.alloc (.cells #[.string key, .int .i64 0, .nilIface] 174) = w1 at *
    have hB : w.heap.size ≤ w0.heap.size := Nat.le_of_lt sW
    generalize w0.heap.size = g at *
    have HSc := Lib.hid hSc; clear hSc bW
    have hs' : key.size ≤ 1048576 := by omega
    refine (tier_any w.heap.size g 0 key .nilIface [] key.data.toList w1 HSc.out ErrV.nil hB ⟨rfl, rfl⟩ hs' (Hp.out.below hb1 hz)).mono ?_
    rintro e w2 ⟨v, a2, x2, rfl, hS2, hT, hb2⟩
    have HS2 := Lib.hid hS2; clear hS2
    obtain ⟨U2, R2, hst⟩ := st1 hT
    have ST := Lib.hid hst; clear hst hT HSc
    have c2 := hb1.trans hb2
    clear hb1 hb2
    go_wp2_with fail
    refine (keyed_any w.heap.size g a2 key x2 U2 R2 w2 HS2.out ST.out.errV hB ST.out.1 hs').mono ?_
    rintro e w3 ⟨n, a3, x3, rfl, hS3, hK, hb3⟩
    have HS3 := Lib.hid hS3; clear hS3
    obtain ⟨U3, R3, hst⟩ := st2 ST.out hK
    have ST3 := Lib.hid hst; clear hst hK HS2 ST
    have c3 := c2.trans hb3
    clear hb3 c2
    go_wp2_with fail
    refine (mark_any w.heap.size g a3 key ⟨#[45]⟩ x3 U3 R3 w3 HS3.out ST3.out.errV hB ST3.out.1 hs' (by decide)).mono ?_
    rintro e w4 ⟨rfl, a4, x4, hS4, hM, hb4⟩
    have HS4 := Lib.hid hS4; clear hS4
    obtain ⟨U4, R4, hst⟩ := st3 ST3.out hM
    have ST4 := Lib.hid hst; clear hst hM HS3 ST3
    have c4 := c3.trans hb4
    clear hb4 c3
    go_wp2_with fail
    refine (keyed_any w.heap.size g a4 key x4 U4 R4 w4 HS4.out ST4.out.errV hB ST4.out.1 hs').mono ?_
    rintro e w5 ⟨m, a5, x5, rfl, hS5, hK, hb5⟩
    have HS5 := Lib.hid hS5; clear hS5
    obtain ⟨U5, R5, hst⟩ := st4 ST4.out hK
    have ST5 := Lib.hid hst; clear hst hK HS4 ST4
    have c5 := c4.trans hb5
    clear hb5 c4
    cases he : ((a5 : Int) == (key.size : Int))
    · go_wp2_with fail
      refine (atEnd_b g a5 key x5 false w5 HS5.out hs' he).mono ?_
      rintro e w6 ⟨rfl, hb6⟩
      have HS6 := Lib.hid (HS5.out.below hb6)
      have c6 : Below w.heap.size w w6 := c5.trans (hb6.mono (Nat.le_of_lt (Nat.lt_of_le_of_lt hB HS5.out.lt)))
      have hno : NoKey key := by
        rcases ST5.out.2 with ⟨e, _⟩ | ⟨_, h⟩
        · have h5 := ST5.out
          rw [e] at h5
          exact (st_end h5).2 (by intro e; simp at he; omega)
        · exact h
      have HN := Lib.hid hno; clear hno hb6 c5 he
      go_wp2_with fail
      refine (fail_any w.heap.size g a5 key _ x5 w6 HS6.out ST5.out.errV hB).mono ?_
      rintro e w7 ⟨rfl, y, ⟨s, i, rfl⟩, hS7, hb7⟩
      have c7 := c6.trans hb7
      have d2 := hS7.c2
      clear hS7 hb7 c6 ST5 HS5 HS6
      go_wp2
      exact bodyPost_ret (v := .tuple #[.int .i64 0, .int .i64 0, .int .i64 0, .int .i64 19]) (by simp [results, Tryz.results116, go_sem]) rfl ⟨0, 0, 0, 19, rfl, Or.inr (Or.inr ⟨hs, HN.out, rfl, rfl, rfl, rfl⟩), c7⟩
    · go_wp2_with fail
      refine (atEnd_b g a5 key x5 true w5 HS5.out hs' he).mono ?_
      rintro e w6 ⟨rfl, hb6⟩
      have HS6 := HS5.out.below hb6
      have c6 : Below w.heap.size w w6 := c5.trans (hb6.mono (Nat.le_of_lt (Nat.lt_of_le_of_lt hB HS5.out.lt)))
      rcases ST5.out.2 with ⟨rfl, _⟩ | ⟨⟨s, i, rfl⟩, hno⟩
      · have HK := Lib.hid ((st_end ST5.out).1 (by simp at he; omega))
        have d2 := HS6.c2
        clear HS6 HS5 ST5 hb6 c5 he
        go_wp2
        exact bodyPost_ret (v := .tuple #[.int .i64 v, .int .i64 n, .int .i64 m, .int .i64 0]) (by simp [results, Tryz.results116, go_sem]) rfl ⟨v, n, m, 0, rfl, Or.inr (Or.inl ⟨hs, HK.out, rfl⟩), c6⟩
      · have HN := Lib.hid hno; clear hno
        have d2 := HS6.c2
        clear HS6 HS5 ST5 hb6 c5 he
        go_wp2
        exact bodyPost_ret (v := .tuple #[.int .i64 0, .int .i64 0, .int .i64 0, .int .i64 19]) (by simp [results, Tryz.results116, go_sem]) rfl ⟨0, 0, 0, 19, rfl, Or.inr (Or.inr ⟨hs, HN.out, rfl, rfl, rfl, rfl⟩), c6⟩
  · have HL := Lib.hid (show 65536 < key.size by simp at hl; omega)
    clear hl
    go_wp2
    exact bodyPost_ret (v := .tuple #[.int .i64 0, .int .i64 0, .int .i64 0, .int .i64 2]) (by simp [results, Tryz.results116, go_sem]) rfl ⟨0, 0, 0, 2, rfl, Or.inl ⟨HL.out, rfl, rfl, rfl, rfl⟩, bW⟩

theorem isKey_one {key : ByteArray} {t n m t' n' m' : Int} (h : IsKey key t n m) (h' : IsKey key t' n' m') : t = t' ∧ n = n' ∧ m = m' := by
  obtain ⟨e, h3⟩ := key_list h
  obtain ⟨e', h3'⟩ := key_list h'
  rw [e] at e'
  obtain ⟨a1, a2, a3, a4, a5, a6⟩ := h.1
  obtain ⟨b1, b2, b3, b4, b5, b6⟩ := h'.1
  obtain ⟨q1, e'⟩ := path_one h3 h3' e'
  obtain ⟨q2, e'⟩ := six_one (by omega) (by omega) e'
  have e' := List.append_cancel_left e'
  rw [← List.append_nil (sixL m.toNat), ← List.append_nil (sixL m'.toNat)] at e'
  obtain ⟨q3, _⟩ := six_one (by omega) (by omega) e'
  omega

end Go.Proofs.YtpfanmcjlfdaiaaGreatDoorR
