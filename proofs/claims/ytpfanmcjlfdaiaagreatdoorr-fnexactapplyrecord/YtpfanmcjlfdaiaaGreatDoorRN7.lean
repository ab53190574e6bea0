/-
  Several texts as one: contracts that the law leans on; each part says what it proves and its conditions.
-/
import Derived.Test.YtpfanmcjlfdaiaaGreatDoorRScan
import Derived.Test.YtpfanmcjlfdaiaaGreatDoorRN6
import Derived.Deep.RegionHeld3
import Derived.Test.YtpfanmcjlfdaiaaGreatDoorRKeyM
import Derived.Test.YtpfanmcjlfdaiaaGreatDoorRN2

/- Contract of the program's scanner.keyed: six digits, or a fault. Conditions: none beside a text's length. -/
namespace Go.Proofs.YtpfanmcjlfdaiaaGreatDoorR
open Go.ChangeShapes Go.WideShapes Go.ChangeAt Go.RowKit
set_option linter.unusedVariables false
set_option linter.unusedSimpArgs false

/-- what digits make -/
def dvalK (l : List UInt8) : Nat := l.foldl (fun n b => 10 * n + (b.toNat - 48)) 0

def isDigK (b : UInt8) : Prop := 48 ≤ b.toNat ∧ b.toNat ≤ 57

theorem dvalK_snoc (l : List UInt8) (b : UInt8) : dvalK (l ++ [b]) = 10 * dvalK l + (b.toNat - 48) := by
  unfold dvalK
  rw [List.foldl_append]
  rfl

theorem byte_of {b : UInt8} {n : Nat} (h : isDigK b) (e : n = b.toNat - 48) : UInt8.ofNat (48 + n) = b := by
  apply UInt8.toNat_inj.1
  obtain ⟨h1, h2⟩ := h
  rw [UInt8.toNat_ofNat']
  omega

theorem six_of (l : List UInt8) (hl : l.length = 6) (h : ∀ b ∈ l, isDigK b) : l = (sixT (dvalK l)).data.toList ∧ dvalK l ≤ 999999 := by
  match l, hl with
  | [a, b, c, d, e, f], _ =>
    have ha := h a (by simp); have hb := h b (by simp); have hc := h c (by simp); have hd := h d (by simp); have he := h e (by simp); have hf := h f (by simp)
    have hv : dvalK [a, b, c, d, e, f] = 100000 * (a.toNat - 48) + 10000 * (b.toNat - 48) + 1000 * (c.toNat - 48) + 100 * (d.toNat - 48) + 10 * (e.toNat - 48) + (f.toNat - 48) := by
      simp only [dvalK, List.foldl_cons, List.foldl_nil]
      omega
    have ha' := ha; have hb' := hb; have hc' := hc; have hd' := hd; have he' := he; have hf' := hf
    unfold isDigK at ha' hb' hc' hd' he' hf'
    refine ⟨?_, by omega⟩
    unfold sixT
    rw [byte_of ha (by omega), byte_of hb (by omega), byte_of hc (by omega), byte_of hd (by omega), byte_of he (by omega), byte_of hf (by omega)]

theorem six_digs (m : Nat) : ∀ b ∈ (sixT m).data.toList, isDigK b := by
  intro b hb
  obtain ⟨i, hi, e⟩ := List.mem_iff_getElem.1 hb
  have h6 : i < 6 := by simpa [sixT] using hi
  have e2 : (sixT m)[i]'(by rw [sixT_size]; exact h6) = b := e
  have := sixT_at (m := m) h6
  rw [e2] at this
  unfold isDigK
  omega

theorem dvalK_six {m : Nat} (h : m ≤ 999999) : dvalK (sixT m).data.toList = m := by
  simp only [sixT, dvalK, List.foldl_cons, List.foldl_nil]
  rw [byte_dig _ (by omega), byte_dig _ (by omega), byte_dig _ (by omega), byte_dig _ (by omega), byte_dig _ (by omega), byte_dig _ (by omega)]
  omega

theorem atEnd_b (g a : Nat) (t : ByteArray) (x : Value) (b : Bool) (w : World) (h : Scan w g t a x) (hs : t.size ≤ 1048576) (hb : ((a : Int) == (t.size : Int)) = b) : Calls Tryz.prog 136 #[.pointer (some ⟨g, 0, none⟩)] w fun e w' => e = .returned (.bool b) ∧ Below w.heap.size w w' := by
  subst hb
  exact atEnd_any g a t x w h hs

theorem isDigit_b (n : Int) (b : Bool) (h : digB n = b) (w : World) : Calls Tryz.prog 128 #[.int .u8 n] w fun e w' => e = .returned (.bool b) ∧ w = w' := by
  subst h
  exact isDigit_any n w

/-- what keyed does -/
def Keyed (t : ByteArray) (R : List UInt8) (a : Nat) (x : Value) (v a' : Nat) (x' : Value) : Prop := (x' = x ∧ a' = a + 6 ∧ v ≤ 999999 ∧ ∃ R', R = (sixT v).data.toList ++ R') ∨ (Bad x' ∧ a' ≤ t.size ∧ ∀ m R', R ≠ (sixT m).data.toList ++ R')

theorem six_len (m : Nat) : (sixT m).data.toList.length = 6 := rfl

set_option maxRecDepth 100000 in
set_option maxHeartbeats 1000000 in
theorem keyed_any (B g a : Nat) (t : ByteArray) (x : Value) (U R : List UInt8) (w : World) (h : Scan w g t a x) (hx : ErrV x) (hB : B ≤ g) (hp : Parted t a U R) (hs : t.size ≤ 1048576) :
    Calls Tryz.prog 134 #[.pointer (some ⟨g, 0, none⟩)] w fun e w' => ∃ (v a' : Nat) (x' : Value), e = .returned (.int .i64 v) ∧ Scan w' g t a' x' ∧ Keyed t R a x v a' x' ∧ Below B w w' := by
  have Hx := Lib.hid hx; clear hx
  have H := Lib.hid h; clear h
  have HP := Lib.hid hp
  have hsz := hp.size
  clear hp
  go_enter Tryz.func134, Tryz.ntmps134
  go_wp2_with fail
  go_loopw [3, 4] (fun n i wr => ∃ (j v p : Nat), p = a + j ∧ j ≤ 6 ∧ i = .int .i64 j ∧ n = .int .i64 v ∧ Hid (Scan wr g t p x) ∧ j ≤ R.length ∧ Hid (v < 10 ^ j ∧ v = dvalK (R.take j) ∧ ∀ b ∈ R.take j, isDigK b) ∧ Below B w wr) (fun _ i _ => 6 - (intOf i).toNat)
  case atStart => exact ⟨0, 0, a, by omega, by omega, rfl, rfl, H, by omega, Lib.hid ⟨by omega, rfl, by simp⟩, Below.refl _ _⟩
  case round =>
    obtain ⟨j, v, p, hpj, hj, rfl, rfl, HS, hjR, HV, hb⟩ := hrel
    by_cases hlt : j < 6
    · by_cases hend : j = R.length
      · have e0 : ((p : Int) == (t.size : Int)) = true := by simp; omega
        have HN := Lib.hid (show ∀ m R', R ≠ (sixT m).data.toList ++ R' from fun m R' e => by
          have := congrArg List.length e
          rw [List.length_append, six_len] at this
          omega)
        have Hle := Lib.hid (show p ≤ t.size by omega)
        have Hpj := Lib.hid hpj
        clear HV hpj hsz
        go_wp2_with fail
        have SC := Lib.hid (HS.out.below (Below.refl _ wr).drew)
        refine wp_region_noPanic ?_
        refine wp_region_held_drew (S := (fun w' => w'.cell? ⟨g, 0, none⟩ = some (.string t) ∧ w'.cell? ⟨g, 1, none⟩ = some (.int .i64 (p : Int)))) (by kernel_rfl) (⟨SC.out.c0, SC.out.c1⟩) (fun hHeld => ?_)
        refine wpAnyH_take (i := 0) (oi := { dst := some 6, op := Op.move (Operand.tmp 0), type := 170, pos := "l03_codec.go:218", after := #[], guard := none }) (v := ?vb0) rfl (by kernel_rfl) (by kernel_rfl) (by kernel_rfl) (fun _ _ _ h => h) (Or.inl ⟨by rfl, ?hyb0⟩) (by assumption) ?restb0
        case hyb0 => intro w hSw; (try dsimp only at hSw); (obtain ⟨s0, s1⟩ := hSw); (first | (go_simp; done) | (go_simp; with_reducible rfl) | (with_reducible rfl))
        try simp only [Act.put, List.setIfInBounds_toArray, List.set_cons_zero, List.set_cons_succ]
        refine wpAnyH_ready (rs := [1]) (by kernel_rfl) (by simp) ?_
        refine AllReadyH.cons (o := { dst := some 7, op := Op.call { callee := Callee.value (Operand.func 136), args := #[Operand.tmp 6], argTypes := #[170] }, type := 4, pos := "l03_codec.go:218", after := #[{ on := 0, ground := Ground.data }], guard := none }) rfl (fun K hK => ?_) AllReadyH.nil
        go_simp
        refine (atEnd_b g p t x true wr.drew SC.out hs e0).mono ?_
        rintro e w1 ⟨rfl, hb1⟩
        have SC1 := Lib.hid (SC.out.below hb1)
        go_wp2_with fail
        refine hK.out _ _ (⟨SC1.out.c0, SC1.out.c1⟩) (fun hHeld => ?_)
        clear hK K
        try simp only [Act.put, List.setIfInBounds_toArray, List.set_cons_zero, List.set_cons_succ]
        refine wpAnyH_take (i := 2) (oi := { dst := some 8, op := Op.move (Operand.tmp 7), type := 4, pos := "l03_codec.go:218", after := #[{ on := 1, ground := Ground.data }, { on := 1, ground := Ground.chain }], guard := none }) (v := ?vb2) rfl (by kernel_rfl) (by kernel_rfl) (by kernel_rfl) (fun _ _ _ h => h) (Or.inl ⟨by rfl, ?hyb2⟩) (by assumption) ?restb2
        case hyb2 => intro w hSw; (try dsimp only at hSw); (obtain ⟨s0, s1⟩ := hSw); (first | (go_simp; done) | (go_simp; with_reducible rfl) | (with_reducible rfl))
        try simp only [Act.put, List.setIfInBounds_toArray, List.set_cons_zero, List.set_cons_succ]
        refine wpAnyH_take (i := 3) (oi := { dst := some 9, op := Op.move (Operand.tmp 0), type := 170, pos := "l03_codec.go:218", after := #[{ on := 2, ground := Ground.guard }], guard := some (2, false) }) (v := undef) rfl (by kernel_rfl) (by kernel_rfl) (by kernel_rfl) (fun _ _ _ h => h) (Or.inr ⟨by rfl, rfl⟩) (by assumption) ?_
        try simp only [Act.put, List.setIfInBounds_toArray, List.set_cons_zero, List.set_cons_succ]
        refine wpAnyH_take (i := 4) (oi := { dst := some 10, op := Op.nilCheck (Operand.tmp 9), type := 0, pos := "l03_codec.go:218", after := #[{ on := 3, ground := Ground.data }, { on := 2, ground := Ground.guard }], guard := some (2, false) }) (v := undef) rfl (by kernel_rfl) (by kernel_rfl) (by kernel_rfl) (fun _ _ _ h => h) (Or.inr ⟨by rfl, rfl⟩) (by assumption) ?_
        try simp only [Act.put, List.setIfInBounds_toArray, List.set_cons_zero, List.set_cons_succ]
        refine wpAnyH_take (i := 5) (oi := { dst := some 11, op := Op.fieldAddr 174 (Operand.tmp 10) 0, type := 0, pos := "l03_codec.go:218", after := #[{ on := 4, ground := Ground.data }, { on := 2, ground := Ground.guard }], guard := some (2, false) }) (v := undef) rfl (by kernel_rfl) (by kernel_rfl) (by kernel_rfl) (fun _ _ _ h => h) (Or.inr ⟨by rfl, rfl⟩) (by assumption) ?_
        try simp only [Act.put, List.setIfInBounds_toArray, List.set_cons_zero, List.set_cons_succ]
        refine wpAnyH_take (i := 6) (oi := { dst := some 12, op := Op.load 9 (Operand.tmp 11), type := 9, pos := "l03_codec.go:218", after := #[{ on := 5, ground := Ground.data }, { on := 2, ground := Ground.guard }], guard := some (2, false) }) (v := undef) rfl (by kernel_rfl) (by kernel_rfl) (by kernel_rfl) (fun _ _ _ h => h) (Or.inr ⟨by rfl, rfl⟩) (by assumption) ?_
        try simp only [Act.put, List.setIfInBounds_toArray, List.set_cons_zero, List.set_cons_succ]
        refine wpAnyH_take (i := 7) (oi := { dst := some 13, op := Op.move (Operand.tmp 0), type := 170, pos := "l03_codec.go:218", after := #[{ on := 2, ground := Ground.guard }], guard := some (2, false) }) (v := undef) rfl (by kernel_rfl) (by kernel_rfl) (by kernel_rfl) (fun _ _ _ h => h) (Or.inr ⟨by rfl, rfl⟩) (by assumption) ?_
        try simp only [Act.put, List.setIfInBounds_toArray, List.set_cons_zero, List.set_cons_succ]
        refine wpAnyH_take (i := 8) (oi := { dst := some 14, op := Op.nilCheck (Operand.tmp 13), type := 0, pos := "l03_codec.go:218", after := #[{ on := 7, ground := Ground.data }, { on := 2, ground := Ground.guard }], guard := some (2, false) }) (v := undef) rfl (by kernel_rfl) (by kernel_rfl) (by kernel_rfl) (fun _ _ _ h => h) (Or.inr ⟨by rfl, rfl⟩) (by assumption) ?_
        try simp only [Act.put, List.setIfInBounds_toArray, List.set_cons_zero, List.set_cons_succ]
        refine wpAnyH_take (i := 9) (oi := { dst := some 15, op := Op.fieldAddr 174 (Operand.tmp 14) 1, type := 0, pos := "l03_codec.go:218", after := #[{ on := 8, ground := Ground.data }, { on := 2, ground := Ground.guard }], guard := some (2, false) }) (v := undef) rfl (by kernel_rfl) (by kernel_rfl) (by kernel_rfl) (fun _ _ _ h => h) (Or.inr ⟨by rfl, rfl⟩) (by assumption) ?_
        try simp only [Act.put, List.setIfInBounds_toArray, List.set_cons_zero, List.set_cons_succ]
        refine wpAnyH_take (i := 10) (oi := { dst := some 16, op := Op.load 3 (Operand.tmp 15), type := 3, pos := "l03_codec.go:218", after := #[{ on := 9, ground := Ground.data }, { on := 2, ground := Ground.guard }], guard := some (2, false) }) (v := undef) rfl (by kernel_rfl) (by kernel_rfl) (by kernel_rfl) (fun _ _ _ h => h) (Or.inr ⟨by rfl, rfl⟩) (by assumption) ?_
        try simp only [Act.put, List.setIfInBounds_toArray, List.set_cons_zero, List.set_cons_succ]
        refine wpAnyH_take (i := 11) (oi := { dst := some 17, op := Op.index 9 (Operand.tmp 12) (Operand.tmp 16), type := 5, pos := "l03_codec.go:218", after := #[{ on := 6, ground := Ground.data }, { on := 10, ground := Ground.data }, { on := 2, ground := Ground.guard }], guard := some (2, false) }) (v := undef) rfl (by kernel_rfl) (by kernel_rfl) (by kernel_rfl) (fun _ _ _ h => h) (Or.inr ⟨by rfl, rfl⟩) (by assumption) ?_
        try simp only [Act.put, List.setIfInBounds_toArray, List.set_cons_zero, List.set_cons_succ]
        refine wpAnyH_take (i := 12) (oi := { dst := some 18, op := Op.call { callee := Callee.value (Operand.func 128), args := #[Operand.tmp 17], argTypes := #[5] }, type := 4, pos := "l03_codec.go:218", after := #[{ on := 11, ground := Ground.data }, { on := 2, ground := Ground.chain }, { on := 2, ground := Ground.guard }], guard := some (2, false) }) (v := undef) rfl (by kernel_rfl) (by kernel_rfl) (by kernel_rfl) (fun _ _ _ h => h) (Or.inr ⟨by rfl, rfl⟩) (by assumption) ?_
        try simp only [Act.put, List.setIfInBounds_toArray, List.set_cons_zero, List.set_cons_succ]
        refine wpAnyH_take (i := 13) (oi := { dst := some 19, op := Op.unOp UnOp.not 4 (Operand.tmp 18), type := 4, pos := "l03_codec.go:218", after := #[{ on := 12, ground := Ground.data }, { on := 2, ground := Ground.guard }], guard := some (2, false) }) (v := undef) rfl (by kernel_rfl) (by kernel_rfl) (by kernel_rfl) (fun _ _ _ h => h) (Or.inr ⟨by rfl, rfl⟩) (by assumption) ?_
        try simp only [Act.put, List.setIfInBounds_toArray, List.set_cons_zero, List.set_cons_succ]
        refine wpAnyH_take (i := 14) (oi := { dst := some 20, op := Op.pick (Operand.tmp 8) (Operand.const (Value.bool true)) (Operand.tmp 19), type := 4, pos := "l03_codec.go:218", after := #[{ on := 2, ground := Ground.data }, { on := 13, ground := Ground.data }], guard := none }) (v := ?vb14) rfl (by kernel_rfl) (by kernel_rfl) (by kernel_rfl) (fun _ _ _ h => h) (Or.inl ⟨by rfl, ?hyb14⟩) (by assumption) ?restb14
        case hyb14 => intro w hSw; (try dsimp only at hSw); (obtain ⟨s0, s1⟩ := hSw); (first | (go_simp; done) | (go_simp; with_reducible rfl) | (with_reducible rfl))
        try simp only [Act.put, List.setIfInBounds_toArray, List.set_cons_zero, List.set_cons_succ]
        refine wpAnyH_done (by kernel_rfl) ?_ _
        refine NoPanic.normal ?_
        have b1 : Below B w w1 := hb.trans ((Below.refl _ _).drew.trans (hb1.mono (Nat.le_of_lt (Nat.lt_of_le_of_lt hB SC.out.lt))))
        go_wp2_with fail
        refine (fail_any B g p t _ x w1 SC1.out Hx.out hB).mono ?_
        rintro e w3 ⟨rfl, y, hy, hs3, hb3⟩
        have H3 := Lib.hid hs3; clear hs3
        have Hy := Lib.hid hy; clear hy
        have b3 := b1.trans hb3
        clear hb3 hb1 b1 SC SC1 HS hHeld
        go_wp2
        go_ret
        exact ⟨0, p, y, rfl, H3.out, Or.inr ⟨Hy.out, Hle.out, HN.out⟩, b3⟩
      · have hjl : j < R.length := by omega
        obtain ⟨hat, hRj⟩ := HP.out.at_ j hjl
        rw [← hpj] at hat
        have hRj : t[p] = R[j] := by rw [← hRj]; congr 1
        have e0 : ((p : Int) == (t.size : Int)) = false := by simp; omega
        have i0 : (0 : Int) ≤ (p : Int) := by omega
        have i1 : (p : Int) < (t.size : Int) := by omega
        have hbyte := t[p].toNat_lt
        cases hd : digB (t[p].toNat : Int)
        · have HN := Lib.hid (show ∀ m R', R ≠ (sixT m).data.toList ++ R' from fun m R' e => by
            have hm : R[j] ∈ (sixT m).data.toList := by
              rw [List.getElem_of_eq e, List.getElem_append_left (by rw [six_len]; exact hlt)]
              exact List.getElem_mem _
            have := six_digs m _ hm
            rw [← hRj] at this
            unfold isDigK at this
            simp [digB] at hd
            omega)
          have Hle := Lib.hid (show p ≤ t.size by omega)
          have Hpj := Lib.hid hpj
          clear HV hRj hpj hsz
          go_wp2_with fail
          have SC := Lib.hid (HS.out.below (Below.refl _ wr).drew)
          refine wp_region_noPanic ?_
          refine wp_region_held_drew (S := (fun w' => w'.cell? ⟨g, 0, none⟩ = some (.string t) ∧ w'.cell? ⟨g, 1, none⟩ = some (.int .i64 (p : Int)))) (by kernel_rfl) (⟨SC.out.c0, SC.out.c1⟩) (fun hHeld => ?_)
          refine wpAnyH_take (i := 0) (oi := { dst := some 6, op := Op.move (Operand.tmp 0), type := 170, pos := "l03_codec.go:218", after := #[], guard := none }) (v := ?vc0) rfl (by kernel_rfl) (by kernel_rfl) (by kernel_rfl) (fun _ _ _ h => h) (Or.inl ⟨by rfl, ?hyc0⟩) (by assumption) ?restc0
          case hyc0 => intro w hSw; (try dsimp only at hSw); (obtain ⟨s0, s1⟩ := hSw); (first | (go_simp; done) | (go_simp; with_reducible rfl) | (with_reducible rfl))
          try simp only [Act.put, List.setIfInBounds_toArray, List.set_cons_zero, List.set_cons_succ]
          refine wpAnyH_ready (rs := [1]) (by kernel_rfl) (by simp) ?_
          refine AllReadyH.cons (o := { dst := some 7, op := Op.call { callee := Callee.value (Operand.func 136), args := #[Operand.tmp 6], argTypes := #[170] }, type := 4, pos := "l03_codec.go:218", after := #[{ on := 0, ground := Ground.data }], guard := none }) rfl (fun K hK => ?_) AllReadyH.nil
          go_simp
          refine (atEnd_b g p t x false wr.drew SC.out hs e0).mono ?_
          rintro e w1 ⟨rfl, hb1⟩
          have SC1 := Lib.hid (SC.out.below hb1)
          go_wp2_with fail
          refine hK.out _ _ (⟨SC1.out.c0, SC1.out.c1⟩) (fun hHeld => ?_)
          clear hK K
          try simp only [Act.put, List.setIfInBounds_toArray, List.set_cons_zero, List.set_cons_succ]
          refine wpAnyH_take (i := 2) (oi := { dst := some 8, op := Op.move (Operand.tmp 7), type := 4, pos := "l03_codec.go:218", after := #[{ on := 1, ground := Ground.data }, { on := 1, ground := Ground.chain }], guard := none }) (v := ?vc2) rfl (by kernel_rfl) (by kernel_rfl) (by kernel_rfl) (fun _ _ _ h => h) (Or.inl ⟨by rfl, ?hyc2⟩) (by assumption) ?restc2
          case hyc2 => intro w hSw; (try dsimp only at hSw); (obtain ⟨s0, s1⟩ := hSw); (first | (go_simp; done) | (go_simp; with_reducible rfl) | (with_reducible rfl))
          try simp only [Act.put, List.setIfInBounds_toArray, List.set_cons_zero, List.set_cons_succ]
          refine wpAnyH_take (i := 3) (oi := { dst := some 9, op := Op.move (Operand.tmp 0), type := 170, pos := "l03_codec.go:218", after := #[{ on := 2, ground := Ground.guard }], guard := some (2, false) }) (v := ?vc3) rfl (by kernel_rfl) (by kernel_rfl) (by kernel_rfl) (fun _ _ _ h => h) (Or.inl ⟨by rfl, ?hyc3⟩) (by assumption) ?restc3
          case hyc3 => intro w hSw; (try dsimp only at hSw); (obtain ⟨s0, s1⟩ := hSw); (first | (go_simp; done) | (go_simp; with_reducible rfl) | (with_reducible rfl))
          try simp only [Act.put, List.setIfInBounds_toArray, List.set_cons_zero, List.set_cons_succ]
          refine wpAnyH_take (i := 4) (oi := { dst := some 10, op := Op.nilCheck (Operand.tmp 9), type := 0, pos := "l03_codec.go:218", after := #[{ on := 3, ground := Ground.data }, { on := 2, ground := Ground.guard }], guard := some (2, false) }) (v := ?vc4) rfl (by kernel_rfl) (by kernel_rfl) (by kernel_rfl) (fun _ _ _ h => h) (Or.inl ⟨by rfl, ?hyc4⟩) (by assumption) ?restc4
          case hyc4 => intro w hSw; (try dsimp only at hSw); (obtain ⟨s0, s1⟩ := hSw); (first | (go_simp; done) | (go_simp; with_reducible rfl) | (with_reducible rfl))
          try simp only [Act.put, List.setIfInBounds_toArray, List.set_cons_zero, List.set_cons_succ]
          refine wpAnyH_take (i := 5) (oi := { dst := some 11, op := Op.fieldAddr 174 (Operand.tmp 10) 0, type := 0, pos := "l03_codec.go:218", after := #[{ on := 4, ground := Ground.data }, { on := 2, ground := Ground.guard }], guard := some (2, false) }) (v := ?vc5) rfl (by kernel_rfl) (by kernel_rfl) (by kernel_rfl) (fun _ _ _ h => h) (Or.inl ⟨by rfl, ?hyc5⟩) (by assumption) ?restc5
          case hyc5 => intro w hSw; (try dsimp only at hSw); (obtain ⟨s0, s1⟩ := hSw); (first | (go_simp; done) | (go_simp; with_reducible rfl) | (with_reducible rfl))
          try simp only [Act.put, List.setIfInBounds_toArray, List.set_cons_zero, List.set_cons_succ]
          refine wpAnyH_take (i := 6) (oi := { dst := some 12, op := Op.load 9 (Operand.tmp 11), type := 9, pos := "l03_codec.go:218", after := #[{ on := 5, ground := Ground.data }, { on := 2, ground := Ground.guard }], guard := some (2, false) }) (v := ?vc6) rfl (by kernel_rfl) (by kernel_rfl) (by kernel_rfl) (fun _ _ _ h => h) (Or.inl ⟨by rfl, ?hyc6⟩) (by assumption) ?restc6
          case hyc6 => intro w hSw; (try dsimp only at hSw); (obtain ⟨s0, s1⟩ := hSw); (first | (go_simp; done) | (go_simp; with_reducible rfl) | (with_reducible rfl))
          try simp only [Act.put, List.setIfInBounds_toArray, List.set_cons_zero, List.set_cons_succ]
          refine wpAnyH_take (i := 7) (oi := { dst := some 13, op := Op.move (Operand.tmp 0), type := 170, pos := "l03_codec.go:218", after := #[{ on := 2, ground := Ground.guard }], guard := some (2, false) }) (v := ?vc7) rfl (by kernel_rfl) (by kernel_rfl) (by kernel_rfl) (fun _ _ _ h => h) (Or.inl ⟨by rfl, ?hyc7⟩) (by assumption) ?restc7
          case hyc7 => intro w hSw; (try dsimp only at hSw); (obtain ⟨s0, s1⟩ := hSw); (first | (go_simp; done) | (go_simp; with_reducible rfl) | (with_reducible rfl))
          try simp only [Act.put, List.setIfInBounds_toArray, List.set_cons_zero, List.set_cons_succ]
          refine wpAnyH_take (i := 8) (oi := { dst := some 14, op := Op.nilCheck (Operand.tmp 13), type := 0, pos := "l03_codec.go:218", after := #[{ on := 7, ground := Ground.data }, { on := 2, ground := Ground.guard }], guard := some (2, false) }) (v := ?vc8) rfl (by kernel_rfl) (by kernel_rfl) (by kernel_rfl) (fun _ _ _ h => h) (Or.inl ⟨by rfl, ?hyc8⟩) (by assumption) ?restc8
          case hyc8 => intro w hSw; (try dsimp only at hSw); (obtain ⟨s0, s1⟩ := hSw); (first | (go_simp; done) | (go_simp; with_reducible rfl) | (with_reducible rfl))
          try simp only [Act.put, List.setIfInBounds_toArray, List.set_cons_zero, List.set_cons_succ]
          refine wpAnyH_take (i := 9) (oi := { dst := some 15, op := Op.fieldAddr 174 (Operand.tmp 14) 1, type := 0, pos := "l03_codec.go:218", after := #[{ on := 8, ground := Ground.data }, { on := 2, ground := Ground.guard }], guard := some (2, false) }) (v := ?vc9) rfl (by kernel_rfl) (by kernel_rfl) (by kernel_rfl) (fun _ _ _ h => h) (Or.inl ⟨by rfl, ?hyc9⟩) (by assumption) ?restc9
          case hyc9 => intro w hSw; (try dsimp only at hSw); (obtain ⟨s0, s1⟩ := hSw); (first | (go_simp; done) | (go_simp; with_reducible rfl) | (with_reducible rfl))
          try simp only [Act.put, List.setIfInBounds_toArray, List.set_cons_zero, List.set_cons_succ]
          refine wpAnyH_take (i := 10) (oi := { dst := some 16, op := Op.load 3 (Operand.tmp 15), type := 3, pos := "l03_codec.go:218", after := #[{ on := 9, ground := Ground.data }, { on := 2, ground := Ground.guard }], guard := some (2, false) }) (v := ?vc10) rfl (by kernel_rfl) (by kernel_rfl) (by kernel_rfl) (fun _ _ _ h => h) (Or.inl ⟨by rfl, ?hyc10⟩) (by assumption) ?restc10
          case hyc10 => intro w hSw; (try dsimp only at hSw); (obtain ⟨s0, s1⟩ := hSw); (first | (go_simp; done) | (go_simp; with_reducible rfl) | (with_reducible rfl))
          try simp only [Act.put, List.setIfInBounds_toArray, List.set_cons_zero, List.set_cons_succ]
          refine wpAnyH_take (i := 11) (oi := { dst := some 17, op := Op.index 9 (Operand.tmp 12) (Operand.tmp 16), type := 5, pos := "l03_codec.go:218", after := #[{ on := 6, ground := Ground.data }, { on := 10, ground := Ground.data }, { on := 2, ground := Ground.guard }], guard := some (2, false) }) (v := ?vc11) rfl (by kernel_rfl) (by kernel_rfl) (by kernel_rfl) (fun _ _ _ h => h) (Or.inl ⟨by rfl, ?hyc11⟩) (by assumption) ?restc11
          case hyc11 => intro w hSw; (try dsimp only at hSw); (obtain ⟨s0, s1⟩ := hSw); (first | (go_simp; done) | (go_simp; with_reducible rfl) | (with_reducible rfl))
          try simp only [Act.put, List.setIfInBounds_toArray, List.set_cons_zero, List.set_cons_succ]
          refine wpAnyH_ready (rs := [12]) (by kernel_rfl) (by simp) ?_
          refine AllReadyH.cons (o := { dst := some 18, op := Op.call { callee := Callee.value (Operand.func 128), args := #[Operand.tmp 17], argTypes := #[5] }, type := 4, pos := "l03_codec.go:218", after := #[{ on := 11, ground := Ground.data }, { on := 2, ground := Ground.chain }, { on := 2, ground := Ground.guard }], guard := some (2, false) }) rfl (fun K hK => ?_) AllReadyH.nil
          go_simp
          refine (isDigit_b _ false hd _).mono ?_
          rintro e w2 ⟨rfl, rfl⟩
          go_wp2_with fail
          refine hK.out _ _ (⟨SC1.out.c0, SC1.out.c1⟩) (fun hHeld => ?_)
          clear hK K
          try simp only [Act.put, List.setIfInBounds_toArray, List.set_cons_zero, List.set_cons_succ]
          refine wpAnyH_take (i := 13) (oi := { dst := some 19, op := Op.unOp UnOp.not 4 (Operand.tmp 18), type := 4, pos := "l03_codec.go:218", after := #[{ on := 12, ground := Ground.data }, { on := 2, ground := Ground.guard }], guard := some (2, false) }) (v := ?vc13) rfl (by kernel_rfl) (by kernel_rfl) (by kernel_rfl) (fun _ _ _ h => h) (Or.inl ⟨by rfl, ?hyc13⟩) (by assumption) ?restc13
          case hyc13 => intro w hSw; (try dsimp only at hSw); (obtain ⟨s0, s1⟩ := hSw); (first | (go_simp; done) | (go_simp; with_reducible rfl) | (with_reducible rfl))
          try simp only [Act.put, List.setIfInBounds_toArray, List.set_cons_zero, List.set_cons_succ]
          refine wpAnyH_take (i := 14) (oi := { dst := some 20, op := Op.pick (Operand.tmp 8) (Operand.const (Value.bool true)) (Operand.tmp 19), type := 4, pos := "l03_codec.go:218", after := #[{ on := 2, ground := Ground.data }, { on := 13, ground := Ground.data }], guard := none }) (v := ?vc14) rfl (by kernel_rfl) (by kernel_rfl) (by kernel_rfl) (fun _ _ _ h => h) (Or.inl ⟨by rfl, ?hyc14⟩) (by assumption) ?restc14
          case hyc14 => intro w hSw; (try dsimp only at hSw); (obtain ⟨s0, s1⟩ := hSw); (first | (go_simp; done) | (go_simp; with_reducible rfl) | (with_reducible rfl))
          try simp only [Act.put, List.setIfInBounds_toArray, List.set_cons_zero, List.set_cons_succ]
          refine wpAnyH_done (by kernel_rfl) ?_ _
          refine NoPanic.normal ?_
          have b1 : Below B w w1 := hb.trans ((Below.refl _ _).drew.trans (hb1.mono (Nat.le_of_lt (Nat.lt_of_le_of_lt hB SC.out.lt))))
          go_wp2_with fail
          refine (fail_any B g p t _ x w1 SC1.out Hx.out hB).mono ?_
          rintro e w3 ⟨rfl, y, hy, hs3, hb3⟩
          have H3 := Lib.hid hs3; clear hs3
          have Hy := Lib.hid hy; clear hy
          have b3 := b1.trans hb3
          clear hb3 hb1 b1 SC SC1 HS hHeld
          go_wp2
          go_ret
          exact ⟨0, p, y, rfl, H3.out, Or.inr ⟨Hy.out, Hle.out, HN.out⟩, b3⟩
        · have hdd : 48 ≤ t[p].toNat ∧ t[p].toNat ≤ 57 := by simp [digB] at hd; omega
          have hv6 : v < 100000 := Nat.lt_of_lt_of_le HV.out.1 (Nat.le_trans (Nat.pow_le_pow_right (by omega) (show j ≤ 5 by omega)) (by omega))
          have HV2 := Lib.hid (show 10 * v + (t[p].toNat - 48) < 10 ^ (j + 1) ∧ 10 * v + (t[p].toNat - 48) = dvalK (R.take (j + 1)) ∧ ∀ b ∈ R.take (j + 1), isDigK b from by
            obtain ⟨h1, h2, h3⟩ := HV.out
            refine ⟨by rw [Nat.pow_succ]; omega, ?_, ?_⟩
            · rw [List.take_succ_eq_append_getElem hjl, dvalK_snoc, ← h2, hRj]
            · rw [List.take_succ_eq_append_getElem hjl]
              intro b hb
              rcases List.mem_append.1 hb with hb | hb
              · exact h3 b hb
              · simp at hb
                subst hb
                rw [← hRj]
                exact hdd)
          have Hle := Lib.hid (show p ≤ t.size by omega)
          have Hpj := Lib.hid hpj
          clear HV hRj hpj hsz
          go_wp2_with fail
          have SC := Lib.hid (HS.out.below (Below.refl _ wr).drew)
          refine wp_region_noPanic ?_
          refine wp_region_held_drew (S := (fun w' => w'.cell? ⟨g, 0, none⟩ = some (.string t) ∧ w'.cell? ⟨g, 1, none⟩ = some (.int .i64 (p : Int)))) (by kernel_rfl) (⟨SC.out.c0, SC.out.c1⟩) (fun hHeld => ?_)
          refine wpAnyH_take (i := 0) (oi := { dst := some 6, op := Op.move (Operand.tmp 0), type := 170, pos := "l03_codec.go:218", after := #[], guard := none }) (v := ?vd0) rfl (by kernel_rfl) (by kernel_rfl) (by kernel_rfl) (fun _ _ _ h => h) (Or.inl ⟨by rfl, ?hyd0⟩) (by assumption) ?restd0
          case hyd0 => intro w hSw; (try dsimp only at hSw); (obtain ⟨s0, s1⟩ := hSw); (first | (go_simp; done) | (go_simp; with_reducible rfl) | (with_reducible rfl))
          try simp only [Act.put, List.setIfInBounds_toArray, List.set_cons_zero, List.set_cons_succ]
          refine wpAnyH_ready (rs := [1]) (by kernel_rfl) (by simp) ?_
          refine AllReadyH.cons (o := { dst := some 7, op := Op.call { callee := Callee.value (Operand.func 136), args := #[Operand.tmp 6], argTypes := #[170] }, type := 4, pos := "l03_codec.go:218", after := #[{ on := 0, ground := Ground.data }], guard := none }) rfl (fun K hK => ?_) AllReadyH.nil
          go_simp
          refine (atEnd_b g p t x false wr.drew SC.out hs e0).mono ?_
          rintro e w1 ⟨rfl, hb1⟩
          have SC1 := Lib.hid (SC.out.below hb1)
          go_wp2_with fail
          refine hK.out _ _ (⟨SC1.out.c0, SC1.out.c1⟩) (fun hHeld => ?_)
          clear hK K
          try simp only [Act.put, List.setIfInBounds_toArray, List.set_cons_zero, List.set_cons_succ]
          refine wpAnyH_take (i := 2) (oi := { dst := some 8, op := Op.move (Operand.tmp 7), type := 4, pos := "l03_codec.go:218", after := #[{ on := 1, ground := Ground.data }, { on := 1, ground := Ground.chain }], guard := none }) (v := ?vd2) rfl (by kernel_rfl) (by kernel_rfl) (by kernel_rfl) (fun _ _ _ h => h) (Or.inl ⟨by rfl, ?hyd2⟩) (by assumption) ?restd2
          case hyd2 => intro w hSw; (try dsimp only at hSw); (obtain ⟨s0, s1⟩ := hSw); (first | (go_simp; done) | (go_simp; with_reducible rfl) | (with_reducible rfl))
          try simp only [Act.put, List.setIfInBounds_toArray, List.set_cons_zero, List.set_cons_succ]
          refine wpAnyH_take (i := 3) (oi := { dst := some 9, op := Op.move (Operand.tmp 0), type := 170, pos := "l03_codec.go:218", after := #[{ on := 2, ground := Ground.guard }], guard := some (2, false) }) (v := ?vd3) rfl (by kernel_rfl) (by kernel_rfl) (by kernel_rfl) (fun _ _ _ h => h) (Or.inl ⟨by rfl, ?hyd3⟩) (by assumption) ?restd3
          case hyd3 => intro w hSw; (try dsimp only at hSw); (obtain ⟨s0, s1⟩ := hSw); (first | (go_simp; done) | (go_simp; with_reducible rfl) | (with_reducible rfl))
          try simp only [Act.put, List.setIfInBounds_toArray, List.set_cons_zero, List.set_cons_succ]
          refine wpAnyH_take (i := 4) (oi := { dst := some 10, op := Op.nilCheck (Operand.tmp 9), type := 0, pos := "l03_codec.go:218", after := #[{ on := 3, ground := Ground.data }, { on := 2, ground := Ground.guard }], guard := some (2, false) }) (v := ?vd4) rfl (by kernel_rfl) (by kernel_rfl) (by kernel_rfl) (fun _ _ _ h => h) (Or.inl ⟨by rfl, ?hyd4⟩) (by assumption) ?restd4
          case hyd4 => intro w hSw; (try dsimp only at hSw); (obtain ⟨s0, s1⟩ := hSw); (first | (go_simp; done) | (go_simp; with_reducible rfl) | (with_reducible rfl))
          try simp only [Act.put, List.setIfInBounds_toArray, List.set_cons_zero, List.set_cons_succ]
          refine wpAnyH_take (i := 5) (oi := { dst := some 11, op := Op.fieldAddr 174 (Operand.tmp 10) 0, type := 0, pos := "l03_codec.go:218", after := #[{ on := 4, ground := Ground.data }, { on := 2, ground := Ground.guard }], guard := some (2, false) }) (v := ?vd5) rfl (by kernel_rfl) (by kernel_rfl) (by kernel_rfl) (fun _ _ _ h => h) (Or.inl ⟨by rfl, ?hyd5⟩) (by assumption) ?restd5
          case hyd5 => intro w hSw; (try dsimp only at hSw); (obtain ⟨s0, s1⟩ := hSw); (first | (go_simp; done) | (go_simp; with_reducible rfl) | (with_reducible rfl))
          try simp only [Act.put, List.setIfInBounds_toArray, List.set_cons_zero, List.set_cons_succ]
          refine wpAnyH_take (i := 6) (oi := { dst := some 12, op := Op.load 9 (Operand.tmp 11), type := 9, pos := "l03_codec.go:218", after := #[{ on := 5, ground := Ground.data }, { on := 2, ground := Ground.guard }], guard := some (2, false) }) (v := ?vd6) rfl (by kernel_rfl) (by kernel_rfl) (by kernel_rfl) (fun _ _ _ h => h) (Or.inl ⟨by rfl, ?hyd6⟩) (by assumption) ?restd6
          case hyd6 => intro w hSw; (try dsimp only at hSw); (obtain ⟨s0, s1⟩ := hSw); (first | (go_simp; done) | (go_simp; with_reducible rfl) | (with_reducible rfl))
          try simp only [Act.put, List.setIfInBounds_toArray, List.set_cons_zero, List.set_cons_succ]
          refine wpAnyH_take (i := 7) (oi := { dst := some 13, op := Op.move (Operand.tmp 0), type := 170, pos := "l03_codec.go:218", after := #[{ on := 2, ground := Ground.guard }], guard := some (2, false) }) (v := ?vd7) rfl (by kernel_rfl) (by kernel_rfl) (by kernel_rfl) (fun _ _ _ h => h) (Or.inl ⟨by rfl, ?hyd7⟩) (by assumption) ?restd7
          case hyd7 => intro w hSw; (try dsimp only at hSw); (obtain ⟨s0, s1⟩ := hSw); (first | (go_simp; done) | (go_simp; with_reducible rfl) | (with_reducible rfl))
          try simp only [Act.put, List.setIfInBounds_toArray, List.set_cons_zero, List.set_cons_succ]
          refine wpAnyH_take (i := 8) (oi := { dst := some 14, op := Op.nilCheck (Operand.tmp 13), type := 0, pos := "l03_codec.go:218", after := #[{ on := 7, ground := Ground.data }, { on := 2, ground := Ground.guard }], guard := some (2, false) }) (v := ?vd8) rfl (by kernel_rfl) (by kernel_rfl) (by kernel_rfl) (fun _ _ _ h => h) (Or.inl ⟨by rfl, ?hyd8⟩) (by assumption) ?restd8
          case hyd8 => intro w hSw; (try dsimp only at hSw); (obtain ⟨s0, s1⟩ := hSw); (first | (go_simp; done) | (go_simp; with_reducible rfl) | (with_reducible rfl))
          try simp only [Act.put, List.setIfInBounds_toArray, List.set_cons_zero, List.set_cons_succ]
          refine wpAnyH_take (i := 9) (oi := { dst := some 15, op := Op.fieldAddr 174 (Operand.tmp 14) 1, type := 0, pos := "l03_codec.go:218", after := #[{ on := 8, ground := Ground.data }, { on := 2, ground := Ground.guard }], guard := some (2, false) }) (v := ?vd9) rfl (by kernel_rfl) (by kernel_rfl) (by kernel_rfl) (fun _ _ _ h => h) (Or.inl ⟨by rfl, ?hyd9⟩) (by assumption) ?restd9
          case hyd9 => intro w hSw; (try dsimp only at hSw); (obtain ⟨s0, s1⟩ := hSw); (first | (go_simp; done) | (go_simp; with_reducible rfl) | (with_reducible rfl))
          try simp only [Act.put, List.setIfInBounds_toArray, List.set_cons_zero, List.set_cons_succ]
          refine wpAnyH_take (i := 10) (oi := { dst := some 16, op := Op.load 3 (Operand.tmp 15), type := 3, pos := "l03_codec.go:218", after := #[{ on := 9, ground := Ground.data }, { on := 2, ground := Ground.guard }], guard := some (2, false) }) (v := ?vd10) rfl (by kernel_rfl) (by kernel_rfl) (by kernel_rfl) (fun _ _ _ h => h) (Or.inl ⟨by rfl, ?hyd10⟩) (by assumption) ?restd10
          case hyd10 => intro w hSw; (try dsimp only at hSw); (obtain ⟨s0, s1⟩ := hSw); (first | (go_simp; done) | (go_simp; with_reducible rfl) | (with_reducible rfl))
          try simp only [Act.put, List.setIfInBounds_toArray, List.set_cons_zero, List.set_cons_succ]
          refine wpAnyH_take (i := 11) (oi := { dst := some 17, op := Op.index 9 (Operand.tmp 12) (Operand.tmp 16), type := 5, pos := "l03_codec.go:218", after := #[{ on := 6, ground := Ground.data }, { on := 10, ground := Ground.data }, { on := 2, ground := Ground.guard }], guard := some (2, false) }) (v := ?vd11) rfl (by kernel_rfl) (by kernel_rfl) (by kernel_rfl) (fun _ _ _ h => h) (Or.inl ⟨by rfl, ?hyd11⟩) (by assumption) ?restd11
          case hyd11 => intro w hSw; (try dsimp only at hSw); (obtain ⟨s0, s1⟩ := hSw); (first | (go_simp; done) | (go_simp; with_reducible rfl) | (with_reducible rfl))
          try simp only [Act.put, List.setIfInBounds_toArray, List.set_cons_zero, List.set_cons_succ]
          refine wpAnyH_ready (rs := [12]) (by kernel_rfl) (by simp) ?_
          refine AllReadyH.cons (o := { dst := some 18, op := Op.call { callee := Callee.value (Operand.func 128), args := #[Operand.tmp 17], argTypes := #[5] }, type := 4, pos := "l03_codec.go:218", after := #[{ on := 11, ground := Ground.data }, { on := 2, ground := Ground.chain }, { on := 2, ground := Ground.guard }], guard := some (2, false) }) rfl (fun K hK => ?_) AllReadyH.nil
          go_simp
          refine (isDigit_b _ true hd _).mono ?_
          rintro e w2 ⟨rfl, rfl⟩
          go_wp2_with fail
          refine hK.out _ _ (⟨SC1.out.c0, SC1.out.c1⟩) (fun hHeld => ?_)
          clear hK K
          try simp only [Act.put, List.setIfInBounds_toArray, List.set_cons_zero, List.set_cons_succ]
          refine wpAnyH_take (i := 13) (oi := { dst := some 19, op := Op.unOp UnOp.not 4 (Operand.tmp 18), type := 4, pos := "l03_codec.go:218", after := #[{ on := 12, ground := Ground.data }, { on := 2, ground := Ground.guard }], guard := some (2, false) }) (v := ?vd13) rfl (by kernel_rfl) (by kernel_rfl) (by kernel_rfl) (fun _ _ _ h => h) (Or.inl ⟨by rfl, ?hyd13⟩) (by assumption) ?restd13
          case hyd13 => intro w hSw; (try dsimp only at hSw); (obtain ⟨s0, s1⟩ := hSw); (first | (go_simp; done) | (go_simp; with_reducible rfl) | (with_reducible rfl))
          try simp only [Act.put, List.setIfInBounds_toArray, List.set_cons_zero, List.set_cons_succ]
          refine wpAnyH_take (i := 14) (oi := { dst := some 20, op := Op.pick (Operand.tmp 8) (Operand.const (Value.bool true)) (Operand.tmp 19), type := 4, pos := "l03_codec.go:218", after := #[{ on := 2, ground := Ground.data }, { on := 13, ground := Ground.data }], guard := none }) (v := ?vd14) rfl (by kernel_rfl) (by kernel_rfl) (by kernel_rfl) (fun _ _ _ h => h) (Or.inl ⟨by rfl, ?hyd14⟩) (by assumption) ?restd14
          case hyd14 => intro w hSw; (try dsimp only at hSw); (obtain ⟨s0, s1⟩ := hSw); (first | (go_simp; done) | (go_simp; with_reducible rfl) | (with_reducible rfl))
          try simp only [Act.put, List.setIfInBounds_toArray, List.set_cons_zero, List.set_cons_succ]
          refine wpAnyH_done (by kernel_rfl) ?_ _
          refine NoPanic.normal ?_
          have b1 : Below B w w1 := hb.trans ((Below.refl _ _).drew.trans (hb1.mono (Nat.le_of_lt (Nat.lt_of_le_of_lt hB SC.out.lt))))
          have s1 := SC1.out
          obtain ⟨c0, c1, c2, fz, hlt1⟩ := s1
          have f1 := fz 1
          clear hb1 SC HS hHeld fz c2
          have w1' : IntKind.u8.wrap ((t[p].toNat : Int) - 48) = (t[p].toNat : Int) - 48 := by rw [IntKind.wrap_u8]; omega
          have w2' : IntKind.i64.wrap ((t[p].toNat : Int) - 48) = (t[p].toNat : Int) - 48 := by rw [IntKind.wrap_i64]; omega
          have w3' : IntKind.i64.wrap (10 * (v : Int)) = 10 * (v : Int) := by rw [IntKind.wrap_i64]; omega
          have w4' : IntKind.i64.wrap (10 * (v : Int) + ((t[p].toNat : Int) - 48)) = 10 * (v : Int) + ((t[p].toNat : Int) - 48) := by rw [IntKind.wrap_i64]; omega
          have w5' : IntKind.i64.wrap ((p : Int) + 1) = ((p + 1 : Nat) : Int) := by rw [IntKind.wrap_i64]; omega
          have Ec := Lib.hid (show (10 * (v : Int) + ((t[p].toNat : Int) - 48)) = ((10 * v + (t[p].toNat - 48) : Nat) : Int) by omega)
          go_wp2_with fail
          refine wp_region_noPanic ?_
          refine wp_region_held_drew (S := (fun w' => w'.cell? ⟨g, 0, none⟩ = some (.string t) ∧ w'.cell? ⟨g, 1, none⟩ = some (.int .i64 (p : Int)))) (by kernel_rfl) (⟨c0, c1⟩) (fun hHeld => ?_)
          refine wpAnyH_take (i := 0) (oi := { dst := some 23, op := Op.move (Operand.tmp 3), type := 3, pos := "l03_codec.go:222", after := #[], guard := none }) (v := ?ve0) rfl (by kernel_rfl) (by kernel_rfl) (by kernel_rfl) (fun _ _ _ h => h) (Or.inl ⟨by rfl, ?hye0⟩) (by assumption) ?reste0
          case hye0 => intro w hSw; (try dsimp only at hSw); (obtain ⟨s0, s1⟩ := hSw); (first | (go_simp; done) | (go_simp; with_reducible rfl) | (with_reducible rfl))
          try simp only [Act.put, List.setIfInBounds_toArray, List.set_cons_zero, List.set_cons_succ]
          refine wpAnyH_take (i := 1) (oi := { dst := some 24, op := Op.binOp BinOp.mul 3 (Operand.const (Value.int IntKind.i64 10)) (Operand.tmp 23) 3, type := 3, pos := "l03_codec.go:222", after := #[{ on := 0, ground := Ground.data }], guard := none }) (v := ?ve1) rfl (by kernel_rfl) (by kernel_rfl) (by kernel_rfl) (fun _ _ _ h => h) (Or.inl ⟨by rfl, ?hye1⟩) (by assumption) ?reste1
          case hye1 => intro w hSw; (try dsimp only at hSw); (obtain ⟨s0, s1⟩ := hSw); (first | (go_simp; done) | (go_simp; with_reducible rfl) | (with_reducible rfl))
          try simp only [Act.put, List.setIfInBounds_toArray, List.set_cons_zero, List.set_cons_succ]
          refine wpAnyH_take (i := 2) (oi := { dst := some 25, op := Op.move (Operand.tmp 0), type := 170, pos := "l03_codec.go:222", after := #[], guard := none }) (v := ?ve2) rfl (by kernel_rfl) (by kernel_rfl) (by kernel_rfl) (fun _ _ _ h => h) (Or.inl ⟨by rfl, ?hye2⟩) (by assumption) ?reste2
          case hye2 => intro w hSw; (try dsimp only at hSw); (obtain ⟨s0, s1⟩ := hSw); (first | (go_simp; done) | (go_simp; with_reducible rfl) | (with_reducible rfl))
          try simp only [Act.put, List.setIfInBounds_toArray, List.set_cons_zero, List.set_cons_succ]
          refine wpAnyH_take (i := 3) (oi := { dst := some 26, op := Op.nilCheck (Operand.tmp 25), type := 0, pos := "l03_codec.go:222", after := #[{ on := 2, ground := Ground.data }], guard := none }) (v := ?ve3) rfl (by kernel_rfl) (by kernel_rfl) (by kernel_rfl) (fun _ _ _ h => h) (Or.inl ⟨by rfl, ?hye3⟩) (by assumption) ?reste3
          case hye3 => intro w hSw; (try dsimp only at hSw); (obtain ⟨s0, s1⟩ := hSw); (first | (go_simp; done) | (go_simp; with_reducible rfl) | (with_reducible rfl))
          try simp only [Act.put, List.setIfInBounds_toArray, List.set_cons_zero, List.set_cons_succ]
          refine wpAnyH_take (i := 4) (oi := { dst := some 27, op := Op.fieldAddr 174 (Operand.tmp 26) 0, type := 0, pos := "l03_codec.go:222", after := #[{ on := 3, ground := Ground.data }], guard := none }) (v := ?ve4) rfl (by kernel_rfl) (by kernel_rfl) (by kernel_rfl) (fun _ _ _ h => h) (Or.inl ⟨by rfl, ?hye4⟩) (by assumption) ?reste4
          case hye4 => intro w hSw; (try dsimp only at hSw); (obtain ⟨s0, s1⟩ := hSw); (first | (go_simp; done) | (go_simp; with_reducible rfl) | (with_reducible rfl))
          try simp only [Act.put, List.setIfInBounds_toArray, List.set_cons_zero, List.set_cons_succ]
          refine wpAnyH_take (i := 5) (oi := { dst := some 28, op := Op.load 9 (Operand.tmp 27), type := 9, pos := "l03_codec.go:222", after := #[{ on := 4, ground := Ground.data }], guard := none }) (v := ?ve5) rfl (by kernel_rfl) (by kernel_rfl) (by kernel_rfl) (fun _ _ _ h => h) (Or.inl ⟨by rfl, ?hye5⟩) (by assumption) ?reste5
          case hye5 => intro w hSw; (try dsimp only at hSw); (obtain ⟨s0, s1⟩ := hSw); (first | (go_simp; done) | (go_simp; with_reducible rfl) | (with_reducible rfl))
          try simp only [Act.put, List.setIfInBounds_toArray, List.set_cons_zero, List.set_cons_succ]
          refine wpAnyH_take (i := 6) (oi := { dst := some 29, op := Op.move (Operand.tmp 0), type := 170, pos := "l03_codec.go:222", after := #[], guard := none }) (v := ?ve6) rfl (by kernel_rfl) (by kernel_rfl) (by kernel_rfl) (fun _ _ _ h => h) (Or.inl ⟨by rfl, ?hye6⟩) (by assumption) ?reste6
          case hye6 => intro w hSw; (try dsimp only at hSw); (obtain ⟨s0, s1⟩ := hSw); (first | (go_simp; done) | (go_simp; with_reducible rfl) | (with_reducible rfl))
          try simp only [Act.put, List.setIfInBounds_toArray, List.set_cons_zero, List.set_cons_succ]
          refine wpAnyH_take (i := 7) (oi := { dst := some 30, op := Op.nilCheck (Operand.tmp 29), type := 0, pos := "l03_codec.go:222", after := #[{ on := 6, ground := Ground.data }], guard := none }) (v := ?ve7) rfl (by kernel_rfl) (by kernel_rfl) (by kernel_rfl) (fun _ _ _ h => h) (Or.inl ⟨by rfl, ?hye7⟩) (by assumption) ?reste7
          case hye7 => intro w hSw; (try dsimp only at hSw); (obtain ⟨s0, s1⟩ := hSw); (first | (go_simp; done) | (go_simp; with_reducible rfl) | (with_reducible rfl))
          try simp only [Act.put, List.setIfInBounds_toArray, List.set_cons_zero, List.set_cons_succ]
          refine wpAnyH_take (i := 8) (oi := { dst := some 31, op := Op.fieldAddr 174 (Operand.tmp 30) 1, type := 0, pos := "l03_codec.go:222", after := #[{ on := 7, ground := Ground.data }], guard := none }) (v := ?ve8) rfl (by kernel_rfl) (by kernel_rfl) (by kernel_rfl) (fun _ _ _ h => h) (Or.inl ⟨by rfl, ?hye8⟩) (by assumption) ?reste8
          case hye8 => intro w hSw; (try dsimp only at hSw); (obtain ⟨s0, s1⟩ := hSw); (first | (go_simp; done) | (go_simp; with_reducible rfl) | (with_reducible rfl))
          try simp only [Act.put, List.setIfInBounds_toArray, List.set_cons_zero, List.set_cons_succ]
          refine wpAnyH_take (i := 9) (oi := { dst := some 32, op := Op.load 3 (Operand.tmp 31), type := 3, pos := "l03_codec.go:222", after := #[{ on := 8, ground := Ground.data }], guard := none }) (v := ?ve9) rfl (by kernel_rfl) (by kernel_rfl) (by kernel_rfl) (fun _ _ _ h => h) (Or.inl ⟨by rfl, ?hye9⟩) (by assumption) ?reste9
          case hye9 => intro w hSw; (try dsimp only at hSw); (obtain ⟨s0, s1⟩ := hSw); (first | (go_simp; done) | (go_simp; with_reducible rfl) | (with_reducible rfl))
          try simp only [Act.put, List.setIfInBounds_toArray, List.set_cons_zero, List.set_cons_succ]
          refine wpAnyH_take (i := 10) (oi := { dst := some 33, op := Op.index 9 (Operand.tmp 28) (Operand.tmp 32), type := 5, pos := "l03_codec.go:222", after := #[{ on := 5, ground := Ground.data }, { on := 9, ground := Ground.data }], guard := none }) (v := ?ve10) rfl (by kernel_rfl) (by kernel_rfl) (by kernel_rfl) (fun _ _ _ h => h) (Or.inl ⟨by rfl, ?hye10⟩) (by assumption) ?reste10
          case hye10 => intro w hSw; (try dsimp only at hSw); (obtain ⟨s0, s1⟩ := hSw); (first | (go_simp; done) | (go_simp; with_reducible rfl) | (with_reducible rfl))
          try simp only [Act.put, List.setIfInBounds_toArray, List.set_cons_zero, List.set_cons_succ]
          refine wpAnyH_take (i := 11) (oi := { dst := some 34, op := Op.binOp BinOp.sub 5 (Operand.tmp 33) (Operand.const (Value.int IntKind.u8 48)) 5, type := 5, pos := "l03_codec.go:222", after := #[{ on := 10, ground := Ground.data }], guard := none }) (v := ?ve11) rfl (by kernel_rfl) (by kernel_rfl) (by kernel_rfl) (fun _ _ _ h => h) (Or.inl ⟨by rfl, ?hye11⟩) (by assumption) ?reste11
          case hye11 => intro w hSw; (try dsimp only at hSw); (obtain ⟨s0, s1⟩ := hSw); (first | (go_simp; done) | (go_simp; with_reducible rfl) | (with_reducible rfl))
          try simp only [Act.put, List.setIfInBounds_toArray, List.set_cons_zero, List.set_cons_succ]
          refine wpAnyH_take (i := 12) (oi := { dst := some 35, op := Op.convert 5 3 (Operand.tmp 34), type := 3, pos := "l03_codec.go:222", after := #[{ on := 11, ground := Ground.data }], guard := none }) (v := ?ve12) rfl (by kernel_rfl) (by kernel_rfl) (by kernel_rfl) (fun _ _ _ h => h) (Or.inl ⟨by rfl, ?hye12⟩) (by assumption) ?reste12
          case hye12 => intro w hSw; (try dsimp only at hSw); (obtain ⟨s0, s1⟩ := hSw); (first | (go_simp; done) | (go_simp; with_reducible rfl) | (with_reducible rfl))
          try simp only [Act.put, List.setIfInBounds_toArray, List.set_cons_zero, List.set_cons_succ]
          refine wpAnyH_take (i := 13) (oi := { dst := some 36, op := Op.binOp BinOp.add 3 (Operand.tmp 24) (Operand.tmp 35) 3, type := 3, pos := "l03_codec.go:222", after := #[{ on := 1, ground := Ground.data }, { on := 12, ground := Ground.data }], guard := none }) (v := ?ve13) rfl (by kernel_rfl) (by kernel_rfl) (by kernel_rfl) (fun _ _ _ h => h) (Or.inl ⟨by rfl, ?hye13⟩) (by assumption) ?reste13
          case hye13 => intro w hSw; (try dsimp only at hSw); (obtain ⟨s0, s1⟩ := hSw); (first | (go_simp; done) | (go_simp; with_reducible rfl) | (with_reducible rfl))
          try simp only [Act.put, List.setIfInBounds_toArray, List.set_cons_zero, List.set_cons_succ]
          refine wpAnyH_take (i := 14) (oi := { dst := some 3, op := Op.assign (Operand.tmp 36), type := 3, pos := "l03_codec.go:222", after := #[{ on := 13, ground := Ground.data }, { on := 0, ground := Ground.phase }, { on := 1, ground := Ground.phase }, { on := 2, ground := Ground.phase }, { on := 3, ground := Ground.phase }, { on := 4, ground := Ground.phase }, { on := 5, ground := Ground.phase }, { on := 6, ground := Ground.phase }, { on := 7, ground := Ground.phase }, { on := 8, ground := Ground.phase }, { on := 9, ground := Ground.phase }, { on := 10, ground := Ground.phase }, { on := 11, ground := Ground.phase }, { on := 12, ground := Ground.phase }, { on := 13, ground := Ground.phase }], guard := none }) (v := ?ve14) rfl (by kernel_rfl) (by kernel_rfl) (by kernel_rfl) (fun _ _ _ h => h) (Or.inl ⟨by rfl, ?hye14⟩) (by assumption) ?reste14
          case hye14 => intro w hSw; (try dsimp only at hSw); (obtain ⟨s0, s1⟩ := hSw); (first | (go_simp; done) | (go_simp; with_reducible rfl) | (with_reducible rfl))
          try simp only [Act.put, List.setIfInBounds_toArray, List.set_cons_zero, List.set_cons_succ]
          refine wpAnyH_done (by kernel_rfl) ?_ _
          refine NoPanic.normal ?_
          have b2 : Below B w w1.drew := b1.drew
          have S2 := SC1.out.below (Below.refl _ w1).drew
          rw [Ec.out]
          clear hHeld c0 c1 f1 b1 SC1 hlt1 w1' w2' w3' w4' Ec
          generalize w1.drew = w2 at *
          have HS3 := Lib.hid (S2.go (p + 1))
          have Hb3 := Lib.hid (bset' b2 (p := ⟨g, 1, none⟩) hB (.int .i64 ((p + 1 : Nat) : Int)))
          obtain ⟨c0, c1, c2, fz, hlt2⟩ := S2
          have f1 := fz 1
          clear fz c2 c0 b2
          generalize 10 * v + (t[p].toNat - 48) = N at *
          go_wp2
          refine ⟨⟨j + 1, N, p + 1, ?_, by omega, by go_num, rfl, ?_, by omega, HV2, ?_⟩, by simp [intOf]; omega⟩
          · have := Hpj.out
            omega
          · exact HS3
          · exact Hb3.out
    · obtain rfl : j = 6 := by omega
      have HK := Lib.hid (show Keyed t R a x v (a + 6) x from by
        obtain ⟨h1, h2, h3⟩ := HV.out
        obtain ⟨h4, h5⟩ := six_of (R.take 6) (by simp; omega) h3
        exact Or.inl ⟨rfl, rfl, by rw [h2]; exact h5, R.drop 6, by rw [h2, ← h4, List.take_append_drop]⟩)
      clear HV
      go_wp2
      go_ret
      subst hpj
      exact ⟨v, a + 6, x, rfl, HS.out, HK.out, hb⟩

end Go.Proofs.YtpfanmcjlfdaiaaGreatDoorR

/- Contract of impl.DataKey. Conditions: the library's table of powers of ten and the program's table of paths are as their texts lay them. -/
namespace Go.Proofs.YtpfanmcjlfdaiaaGreatDoorR
open Go.ChangeShapes Go.WideShapes Go.ChangeAt Go.RowKit
set_option linter.unusedVariables false
set_option linter.unusedSimpArgs false

/-- the program's paths of tiers are as they were laid -/
def Paths (w : World) : Prop := ∀ t, t < 3 → w.cell? ⟨1, t, none⟩ = some (.string (pathT t))

theorem Paths.below {w w' : World} {B : Nat} (h : Paths w) (hb : Below B w w') (hB : 1 < B) : Paths w' := fun t ht => (hb.cell (p := ⟨1, t, none⟩) hB).trans (h t ht)

theorem within_b (n lo hi : Int) (b : Bool) (h : inB n lo hi = b) (w : World) : Calls Tryz.prog 62 #[.int .i64 n, .int .i64 lo, .int .i64 hi] w fun e w' => e = .returned (.bool b) ∧ w = w' :=
  (within_any n lo hi w).mono fun e w' ⟨he, hB⟩ => ⟨by rw [he, h], hB⟩

end Go.Proofs.YtpfanmcjlfdaiaaGreatDoorR
