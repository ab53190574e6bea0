/-
  Contracts of the program's scanner.number and scanner.sample. Conditions: the library's table of powers of ten is as its text lays it, its two errors' variables hold errors; a text's length.
-/
import Derived.Test.YtjmfffmjfbpgjaaGreatDoorScan
import Derived.Test.YtjmfffmjfbpgjaaGreatDoorRdNum
import Derived.Test.YtjmfffmjfbpgjaaGreatDoorParts
import Derived.Test.YtjmfffmjfbpgjaaGreatDoorSamTxt
import Derived.Deep.RegionHeld3
namespace Go.Proofs.YtjmfffmjfbpgjaaGreatDoor
open Go.ChangeShapes Go.WideShapes Go.ChangeAt Go.RowKit
set_option linter.unusedVariables false
set_option linter.unusedSimpArgs false

/-- a byte that a number's text may have -/
def numC (b : UInt8) : Prop := isDig b ∨ b = 45

theorem num_bytes (m : Int) : ∀ b ∈ (numT m).data.toList, numC b := by
  rw [num_list]
  intro b hb
  by_cases h0 : 0 ≤ m
  · rw [itoa_pos h0] at hb
    exact Or.inl ((dec_facts m.toNat).1 b hb)
  · rw [itoa_neg (by omega)] at hb
    simp at hb
    rcases hb with rfl | hb
    · exact Or.inr rfl
    · exact Or.inl ((dec_facts m.natAbs).1 b hb)

/-- what number does: it takes all the bytes that a number may have -/
def Numbered (R : List UInt8) (a : Nat) (x : Value) (n : Int) (D R' : List UInt8) (x' : Value) : Prop := R = D ++ R' ∧ (∀ b ∈ D, numC b) ∧ (∀ b r, R' = b :: r → ¬ numC b) ∧ ((x' = x ∧ D = (numT n).data.toList ∧ FitI n) ∨ (Bad x' ∧ ∀ m, Small m → D ≠ (numT m).data.toList))

theorem ext_piece {t : ByteArray} {a d : Nat} {U R : List UInt8} (h : Parted t a U R) (hd : d ≤ R.length) : (t.extract a (a + d)).data.toList = R.take d := by
  rw [ext_list, h.1, h.2, List.take_append, List.drop_append]
  simp

theorem isDigit_c (n : Int) (b : Bool) (h : digB n = b) (w : World) : Calls Tryz.prog 69 #[.int .u8 n] w fun e w' => e = .returned (.bool b) ∧ w = w' := by
  subst h
  exact isDigit_any n w

set_option maxRecDepth 100000 in
set_option maxHeartbeats 1000000 in
theorem number_g (g a : Nat) (t : ByteArray) (x : Value) (U R : List UInt8) (w : World) (h : Scan w g t a x) (hx : ErrV x) (hp : Parted t a U R) (hs : t.size ≤ 1000000) (hEP : ∀ w', w.grownBy w' (some g) → Errs w' ∧ Pow w') :
    Calls Tryz.prog 120 #[.pointer (some ⟨g, 0, none⟩)] w fun e w' => ∃ (n : Int) (D R' : List UInt8) (x' : Value), e = .returned (.int .i64 n) ∧ Scan w' g t (a + D.length) x' ∧ Numbered R a x n D R' x' ∧ w.grownBy w' (some g) := by
  have Hx := Lib.hid hx; clear hx
  have H := Lib.hid h
  have HP := Lib.hid hp
  have HEP := Lib.hid hEP; clear hEP
  have Hsz := Lib.hid hp.size
  have hat := hp.le
  obtain ⟨c0, c1, c2, fz, hlt⟩ := h
  clear hp fz c2
  go_enter Tryz.func120, Tryz.ntmps120
  go_wp2_with fail
  go_loopw [3] (fun e wr => ∃ (d p : Nat), Hid (p = a + d) ∧ e = .int .i64 p ∧ d ≤ R.length ∧ p ≤ t.size ∧ a ≤ p ∧ Hid (∀ b ∈ R.take d, numC b) ∧ wr = w) (fun e _ => t.size - (intOf e).toNat)
  case atStart => exact ⟨0, a, Lib.hid rfl, rfl, by omega, by omega, Nat.le_refl _, Lib.hid (by simp), rfl⟩
  case round =>
    obtain ⟨d, p, HPd, rfl, hd, hpt, hap, HD, rfl⟩ := hrel
    have i0 : (0 : Int) ≤ (p : Int) := by omega
    by_cases hlt2 : p < t.size
    · have hdl : d < R.length := by have := HPd.out; have := Hsz.out; omega
      have hbyte : t[p] = R[d] := by
        obtain ⟨hs', e⟩ := HP.out.at_ d hdl
        have := HPd.out
        subst this
        exact e
      have i1 : (p : Int) < (t.size : Int) := by omega
      have HB1 := Lib.hid (show ∀ (hc : numC R[d]), ∀ b ∈ R.take (d + 1), numC b from fun hc b hb => by
        rw [List.take_succ_eq_append_getElem hdl] at hb
        rcases List.mem_append.1 hb with hb | hb
        · exact HD.out b hb
        · simp at hb; subst hb; exact hc)
      cases hdg : digB (t[p].toNat : Int)
      · cases h45 : ((t[p].toNat : Int) == 45)
        · have HST := Lib.hid (show ∀ b r, R.drop d = b :: r → ¬ numC b from fun b r e hc => by
            rw [List.drop_eq_getElem_cons hdl] at e
            injection e with e _
            rw [← e, ← hbyte] at hc
            rcases hc with hc | hc
            · unfold isDig at hc
              simp [digB] at hdg
              omega
            · rw [hc] at h45; cases h45)
          clear HB1 hbyte
          go_wp2_with (go_at_call 69; refine (isDigit_c _ false hdg _).mono ?_; rintro e w' ⟨rfl, rfl⟩)
          have hXs : (t.extract a p).size ≤ 1000000 := by rw [ByteArray.size_extract]; omega
          have hXD : (t.extract a p).data.toList = R.take d := by rw [HPd.out]; exact ext_piece HP.out hd
          obtain ⟨X, hX⟩ : ∃ X, X = t.extract a p := ⟨_, rfl⟩
          rw [← hX] at hXs hXD
          have HRD := Lib.hid (fun w' (h : wr.grownBy w' (some g)) => readNumber_any X w' (by omega) (HEP.out w' h).1 (HEP.out w' h).2)
          have HXN := Lib.hid (show ∀ n b x', NumRd X n b → (b = true → x' = x) → (b = false → Bad x') → Numbered R a x n (R.take d) (R.drop d) x' from fun n b x' h h1 h2 => by
            refine ⟨(List.take_append_drop _ _).symm, HD.out, HST.out, ?_⟩
            rcases h with ⟨rfl, rfl, f1, f2⟩ | ⟨rfl, hno⟩
            · exact Or.inl ⟨h1 rfl, hXD.symm, f1, f2⟩
            · exact Or.inr ⟨h2 rfl, fun m hm e => hno m hm (ba_eq (by rw [hXD, e]))⟩)
          have HDL := Lib.hid (show a + (R.take d).length = p by rw [List.length_take, HPd.out]; omega)
          have SC := Lib.hid (H.out.below (Below.refl _ wr).drew)
          have j0 : (0 : Int) ≤ (a : Int) := by omega
          have j1 : (a : Int) ≤ (p : Int) := by omega
          have j2 : (p : Int) ≤ (t.size : Int) := by omega
          have eX := hX.symm
          clear hX hXD HD HST
          go_wp2_with fail
          refine wp_region_noPanic ?_
          refine wp_region_held_drew (S := (fun w' => w'.cell? ⟨g, 0, none⟩ = some (.string t) ∧ w'.cell? ⟨g, 1, none⟩ = some (.int .i64 (a : Int)))) (by kernel_rfl) (⟨SC.out.c0, SC.out.c1⟩) (fun hHeld => ?_)
          refine wpAnyH_take (i := 0) (oi := { dst := some 38, op := Op.move (Operand.tmp 0), type := 95, pos := "l03_codec.go:207", after := #[], guard := none }) (v := ?vc0) rfl (by kernel_rfl) (by kernel_rfl) (by kernel_rfl) (fun _ _ _ h => h) (Or.inl ⟨by rfl, ?hyc0⟩) (by assumption) ?restc0
          case hyc0 => intro w hSw; (try dsimp only at hSw); (obtain ⟨s0, s1⟩ := hSw); (first | (go_simp; done) | (go_simp; with_reducible rfl) | (with_reducible rfl))
          try simp only [Act.put, List.setIfInBounds_toArray, List.set_cons_zero, List.set_cons_succ]
          refine wpAnyH_take (i := 1) (oi := { dst := some 39, op := Op.nilCheck (Operand.tmp 38), type := 0, pos := "l03_codec.go:207", after := #[{ on := 0, ground := Ground.data }], guard := none }) (v := ?vc1) rfl (by kernel_rfl) (by kernel_rfl) (by kernel_rfl) (fun _ _ _ h => h) (Or.inl ⟨by rfl, ?hyc1⟩) (by assumption) ?restc1
          case hyc1 => intro w hSw; (try dsimp only at hSw); (obtain ⟨s0, s1⟩ := hSw); (first | (go_simp; done) | (go_simp; with_reducible rfl) | (with_reducible rfl))
          try simp only [Act.put, List.setIfInBounds_toArray, List.set_cons_zero, List.set_cons_succ]
          refine wpAnyH_take (i := 2) (oi := { dst := some 40, op := Op.fieldAddr 115 (Operand.tmp 39) 0, type := 0, pos := "l03_codec.go:207", after := #[{ on := 1, ground := Ground.data }], guard := none }) (v := ?vc2) rfl (by kernel_rfl) (by kernel_rfl) (by kernel_rfl) (fun _ _ _ h => h) (Or.inl ⟨by rfl, ?hyc2⟩) (by assumption) ?restc2
          case hyc2 => intro w hSw; (try dsimp only at hSw); (obtain ⟨s0, s1⟩ := hSw); (first | (go_simp; done) | (go_simp; with_reducible rfl) | (with_reducible rfl))
          try simp only [Act.put, List.setIfInBounds_toArray, List.set_cons_zero, List.set_cons_succ]
          refine wpAnyH_take (i := 3) (oi := { dst := some 41, op := Op.load 9 (Operand.tmp 40), type := 9, pos := "l03_codec.go:207", after := #[{ on := 2, ground := Ground.data }], guard := none }) (v := ?vc3) rfl (by kernel_rfl) (by kernel_rfl) (by kernel_rfl) (fun _ _ _ h => h) (Or.inl ⟨by rfl, ?hyc3⟩) (by assumption) ?restc3
          case hyc3 => intro w hSw; (try dsimp only at hSw); (obtain ⟨s0, s1⟩ := hSw); (first | (go_simp; done) | (go_simp; with_reducible rfl) | (with_reducible rfl))
          try simp only [Act.put, List.setIfInBounds_toArray, List.set_cons_zero, List.set_cons_succ]
          refine wpAnyH_take (i := 4) (oi := { dst := some 42, op := Op.move (Operand.tmp 0), type := 95, pos := "l03_codec.go:207", after := #[], guard := none }) (v := ?vc4) rfl (by kernel_rfl) (by kernel_rfl) (by kernel_rfl) (fun _ _ _ h => h) (Or.inl ⟨by rfl, ?hyc4⟩) (by assumption) ?restc4
          case hyc4 => intro w hSw; (try dsimp only at hSw); (obtain ⟨s0, s1⟩ := hSw); (first | (go_simp; done) | (go_simp; with_reducible rfl) | (with_reducible rfl))
          try simp only [Act.put, List.setIfInBounds_toArray, List.set_cons_zero, List.set_cons_succ]
          refine wpAnyH_take (i := 5) (oi := { dst := some 43, op := Op.nilCheck (Operand.tmp 42), type := 0, pos := "l03_codec.go:207", after := #[{ on := 4, ground := Ground.data }], guard := none }) (v := ?vc5) rfl (by kernel_rfl) (by kernel_rfl) (by kernel_rfl) (fun _ _ _ h => h) (Or.inl ⟨by rfl, ?hyc5⟩) (by assumption) ?restc5
          case hyc5 => intro w hSw; (try dsimp only at hSw); (obtain ⟨s0, s1⟩ := hSw); (first | (go_simp; done) | (go_simp; with_reducible rfl) | (with_reducible rfl))
          try simp only [Act.put, List.setIfInBounds_toArray, List.set_cons_zero, List.set_cons_succ]
          refine wpAnyH_take (i := 6) (oi := { dst := some 44, op := Op.fieldAddr 115 (Operand.tmp 43) 1, type := 0, pos := "l03_codec.go:207", after := #[{ on := 5, ground := Ground.data }], guard := none }) (v := ?vc6) rfl (by kernel_rfl) (by kernel_rfl) (by kernel_rfl) (fun _ _ _ h => h) (Or.inl ⟨by rfl, ?hyc6⟩) (by assumption) ?restc6
          case hyc6 => intro w hSw; (try dsimp only at hSw); (obtain ⟨s0, s1⟩ := hSw); (first | (go_simp; done) | (go_simp; with_reducible rfl) | (with_reducible rfl))
          try simp only [Act.put, List.setIfInBounds_toArray, List.set_cons_zero, List.set_cons_succ]
          refine wpAnyH_take (i := 7) (oi := { dst := some 45, op := Op.load 3 (Operand.tmp 44), type := 3, pos := "l03_codec.go:207", after := #[{ on := 6, ground := Ground.data }], guard := none }) (v := ?vc7) rfl (by kernel_rfl) (by kernel_rfl) (by kernel_rfl) (fun _ _ _ h => h) (Or.inl ⟨by rfl, ?hyc7⟩) (by assumption) ?restc7
          case hyc7 => intro w hSw; (try dsimp only at hSw); (obtain ⟨s0, s1⟩ := hSw); (first | (go_simp; done) | (go_simp; with_reducible rfl) | (with_reducible rfl))
          try simp only [Act.put, List.setIfInBounds_toArray, List.set_cons_zero, List.set_cons_succ]
          refine wpAnyH_take (i := 8) (oi := { dst := some 46, op := Op.move (Operand.tmp 3), type := 3, pos := "l03_codec.go:207", after := #[], guard := none }) (v := ?vc8) rfl (by kernel_rfl) (by kernel_rfl) (by kernel_rfl) (fun _ _ _ h => h) (Or.inl ⟨by rfl, ?hyc8⟩) (by assumption) ?restc8
          case hyc8 => intro w hSw; (try dsimp only at hSw); (obtain ⟨s0, s1⟩ := hSw); (first | (go_simp; done) | (go_simp; with_reducible rfl) | (with_reducible rfl))
          try simp only [Act.put, List.setIfInBounds_toArray, List.set_cons_zero, List.set_cons_succ]
          refine wpAnyH_take (i := 9) (oi := { dst := some 47, op := Op.slice 9 (Operand.tmp 41) (some (Operand.tmp 45)) (some (Operand.tmp 46)) none, type := 9, pos := "l03_codec.go:207", after := #[{ on := 3, ground := Ground.data }, { on := 7, ground := Ground.data }, { on := 8, ground := Ground.data }], guard := none }) (v := ?vc9) rfl (by kernel_rfl) (by kernel_rfl) (by kernel_rfl) (fun _ _ _ h => h) (Or.inl ⟨by rfl, ?hyc9⟩) (by assumption) ?restc9
          case hyc9 => intro w hSw; (try dsimp only at hSw); (obtain ⟨s0, s1⟩ := hSw); (first | (go_simp; done) | (go_simp; with_reducible rfl) | (with_reducible rfl))
          try simp only [Act.put, List.setIfInBounds_toArray, List.set_cons_zero, List.set_cons_succ]
          refine wpAnyH_ready (rs := [10]) (by kernel_rfl) (by simp) ?_
          refine AllReadyH.cons (o := { dst := some 48, op := Op.call { callee := Callee.value (Operand.func 133), args := #[Operand.tmp 47], argTypes := #[9] }, type := 191, pos := "l03_codec.go:207", after := #[{ on := 9, ground := Ground.data }], guard := none }) rfl (fun K hK => ?_) AllReadyH.nil
          go_simp
          refine (HRD.out wr.drew (grown_of_below (Below.refl _ wr).drew _)).mono ?_
          rintro e w1 ⟨n, b, rfl, hn, hn0, hb1⟩
          have SC1 := Lib.hid (SC.out.below hb1)
          go_wp2_with fail
          refine hK.out _ _ (⟨SC1.out.c0, SC1.out.c1⟩) (fun hHeld => ?_)
          clear hK K
          try simp only [Act.put, List.setIfInBounds_toArray, List.set_cons_zero, List.set_cons_succ]
          refine wpAnyH_take (i := 11) (oi := { dst := some 37, op := Op.move (Operand.tmp 48), type := 191, pos := "l03_codec.go:207", after := #[{ on := 10, ground := Ground.data }], guard := none }) (v := ?vc11) rfl (by kernel_rfl) (by kernel_rfl) (by kernel_rfl) (fun _ _ _ h => h) (Or.inl ⟨by rfl, ?hyc11⟩) (by assumption) ?restc11
          case hyc11 => intro w hSw; (try dsimp only at hSw); (obtain ⟨s0, s1⟩ := hSw); (first | (go_simp; done) | (go_simp; with_reducible rfl) | (with_reducible rfl))
          try simp only [Act.put, List.setIfInBounds_toArray, List.set_cons_zero, List.set_cons_succ]
          refine wpAnyH_take (i := 12) (oi := { dst := some 49, op := Op.extract (Operand.tmp 37) 0, type := 3, pos := "l03_codec.go:207", after := #[{ on := 11, ground := Ground.data }], guard := none }) (v := ?vc12) rfl (by kernel_rfl) (by kernel_rfl) (by kernel_rfl) (fun _ _ _ h => h) (Or.inl ⟨by rfl, ?hyc12⟩) (by assumption) ?restc12
          case hyc12 => intro w hSw; (try dsimp only at hSw); (obtain ⟨s0, s1⟩ := hSw); (first | (go_simp; done) | (go_simp; with_reducible rfl) | (with_reducible rfl))
          try simp only [Act.put, List.setIfInBounds_toArray, List.set_cons_zero, List.set_cons_succ]
          refine wpAnyH_take (i := 13) (oi := { dst := some 50, op := Op.extract (Operand.tmp 37) 1, type := 4, pos := "l03_codec.go:207", after := #[{ on := 11, ground := Ground.data }, { on := 14, ground := Ground.gcOnly Departure.lateStores }], guard := none }) (v := ?vc13) rfl (by kernel_rfl) (by kernel_rfl) (by kernel_rfl) (fun _ _ _ h => h) (Or.inl ⟨by rfl, ?hyc13⟩) (by assumption) ?restc13
          case hyc13 => intro w hSw; (try dsimp only at hSw); (obtain ⟨s0, s1⟩ := hSw); (first | (go_simp; done) | (go_simp; with_reducible rfl) | (with_reducible rfl))
          try simp only [Act.put, List.setIfInBounds_toArray, List.set_cons_zero, List.set_cons_succ]
          refine wpAnyH_take (i := 14) (oi := { dst := some 4, op := Op.assign (Operand.tmp 49), type := 3, pos := "l03_codec.go:207", after := #[{ on := 12, ground := Ground.data }, { on := 10, ground := Ground.chain }, { on := 0, ground := Ground.phase }, { on := 1, ground := Ground.phase }, { on := 2, ground := Ground.phase }, { on := 3, ground := Ground.phase }, { on := 4, ground := Ground.phase }, { on := 5, ground := Ground.phase }, { on := 6, ground := Ground.phase }, { on := 7, ground := Ground.phase }, { on := 8, ground := Ground.phase }, { on := 9, ground := Ground.phase }, { on := 10, ground := Ground.phase }, { on := 11, ground := Ground.phase }, { on := 12, ground := Ground.phase }, { on := 13, ground := Ground.textOnly Departure.lateStores }], guard := none }) (v := ?vc14) rfl (by kernel_rfl) (by kernel_rfl) (by kernel_rfl) (fun _ _ _ h => h) (Or.inl ⟨by rfl, ?hyc14⟩) (by assumption) ?restc14
          case hyc14 => intro w hSw; (try dsimp only at hSw); (obtain ⟨s0, s1⟩ := hSw); (first | (go_simp; done) | (go_simp; with_reducible rfl) | (with_reducible rfl))
          try simp only [Act.put, List.setIfInBounds_toArray, List.set_cons_zero, List.set_cons_succ]
          refine wpAnyH_take (i := 15) (oi := { dst := some 5, op := Op.assign (Operand.tmp 50), type := 4, pos := "l03_codec.go:207", after := #[{ on := 13, ground := Ground.data }, { on := 14, ground := Ground.chain }, { on := 0, ground := Ground.phase }, { on := 1, ground := Ground.phase }, { on := 2, ground := Ground.phase }, { on := 3, ground := Ground.phase }, { on := 4, ground := Ground.phase }, { on := 5, ground := Ground.phase }, { on := 6, ground := Ground.phase }, { on := 7, ground := Ground.phase }, { on := 8, ground := Ground.phase }, { on := 9, ground := Ground.phase }, { on := 10, ground := Ground.phase }, { on := 11, ground := Ground.phase }, { on := 12, ground := Ground.phase }, { on := 13, ground := Ground.phase }, { on := 14, ground := Ground.phase }], guard := none }) (v := ?vc15) rfl (by kernel_rfl) (by kernel_rfl) (by kernel_rfl) (fun _ _ _ h => h) (Or.inl ⟨by rfl, ?hyc15⟩) (by assumption) ?restc15
          case hyc15 => intro w hSw; (try dsimp only at hSw); (obtain ⟨s0, s1⟩ := hSw); (first | (go_simp; done) | (go_simp; with_reducible rfl) | (with_reducible rfl))
          try simp only [Act.put, List.setIfInBounds_toArray, List.set_cons_zero, List.set_cons_succ]
          refine wpAnyH_done (by kernel_rfl) ?_ _
          refine NoPanic.normal ?_
          have b1 : wr.grownBy w1 (some g) := grown_trans (grown_of_below (Below.refl _ wr).drew _) (grown_of_below hb1 _)
          cases b
          · obtain rfl : n = 0 := hn0 rfl
            have HN := Lib.hid hn; clear hn hn0
            have c2' := hHeld
            clear hHeld c2' hb1 SC HRD
            go_wp2_with fail
            refine (fail_g g a t _ x w1 SC1.out Hx.out).mono ?_
            rintro e w3 ⟨rfl, y, hy, hs3, hb3⟩
            have HNN := Lib.hid (HXN.out 0 false y HN.out (fun h => by cases h) (fun _ => hy))
            have H4 := Lib.hid (hs3.go p)
            have b3 := Lib.hid (grown_setCell (grown_trans b1 hb3) ⟨g, 1, none⟩ (Or.inl rfl) (.int .i64 (p : Int)))
            obtain ⟨d0, d1, d2, dz, dlt⟩ := hs3
            have f1 := dz 1
            clear dz d2 d0 hb3 b1 SC1 HXN HN hy c0 c1
            go_wp2
            go_ret
            refine ⟨0, R.take d, R.drop d, y, rfl, ?_, HNN.out, ?_⟩
            · rw [HDL.out]; exact H4.out
            · exact b3.out
          · have HNN := Lib.hid (HXN.out n true x hn (fun _ => rfl) (fun h => by cases h))
            have hs3 := SC1.out
            have H4 := Lib.hid (hs3.go p)
            have b3 := Lib.hid (grown_setCell b1 ⟨g, 1, none⟩ (Or.inl rfl) (.int .i64 (p : Int)))
            obtain ⟨d0, d1, d2, dz, dlt⟩ := hs3
            have f1 := dz 1
            clear dz d2 d0 b1 SC1 HXN hn hn0 hHeld hb1 SC HRD c0 c1
            go_wp2
            go_ret
            refine ⟨n, R.take d, R.drop d, x, rfl, ?_, HNN.out, ?_⟩
            · rw [HDL.out]; exact H4.out
            · exact b3.out
        · have HC := Lib.hid (HB1.out (Or.inr (by rw [← hbyte]; exact UInt8.toNat_inj.1 (by have e : (45 : UInt8).toNat = 45 := rfl; simp at h45; omega))))
          clear HB1 hbyte
          go_wp2_with (go_at_call 69; refine (isDigit_c _ false hdg _).mono ?_; rintro e w' ⟨rfl, rfl⟩)
          exact ⟨⟨d + 1, p + 1, Lib.hid (by have := HPd.out; omega), by go_num, by omega, by omega, by omega, HC, trivial⟩, by simp [intOf]; omega⟩
      · have HC := Lib.hid (HB1.out (Or.inl (by rw [← hbyte]; unfold isDig; simp [digB] at hdg; omega)))
        clear HB1 hbyte
        go_wp2_with (go_at_call 69; refine (isDigit_c _ true hdg _).mono ?_; rintro e w' ⟨rfl, rfl⟩)
        exact ⟨⟨d + 1, p + 1, Lib.hid (by have := HPd.out; omega), by go_num, by omega, by omega, by omega, HC, trivial⟩, by simp [intOf]; omega⟩
    · have hdl : d = R.length := by have := HPd.out; have := Hsz.out; omega
      have HST := Lib.hid (show ∀ b r, R.drop d = b :: r → ¬ numC b from fun b r e => by
        rw [List.drop_of_length_le (by omega)] at e
        cases e)
      have i1 : ¬ (p : Int) < (t.size : Int) := by omega
      clear hdl
      have hXs : (t.extract a p).size ≤ 1000000 := by rw [ByteArray.size_extract]; omega
      have hXD : (t.extract a p).data.toList = R.take d := by rw [HPd.out]; exact ext_piece HP.out hd
      obtain ⟨X, hX⟩ : ∃ X, X = t.extract a p := ⟨_, rfl⟩
      rw [← hX] at hXs hXD
      have HRD := Lib.hid (fun w' (h : wr.grownBy w' (some g)) => readNumber_any X w' (by omega) (HEP.out w' h).1 (HEP.out w' h).2)
      have HXN := Lib.hid (show ∀ n b x', NumRd X n b → (b = true → x' = x) → (b = false → Bad x') → Numbered R a x n (R.take d) (R.drop d) x' from fun n b x' h h1 h2 => by
        refine ⟨(List.take_append_drop _ _).symm, HD.out, HST.out, ?_⟩
        rcases h with ⟨rfl, rfl, f1, f2⟩ | ⟨rfl, hno⟩
        · exact Or.inl ⟨h1 rfl, hXD.symm, f1, f2⟩
        · exact Or.inr ⟨h2 rfl, fun m hm e => hno m hm (ba_eq (by rw [hXD, e]))⟩)
      have HDL := Lib.hid (show a + (R.take d).length = p by rw [List.length_take, HPd.out]; omega)
      have SC := Lib.hid (H.out.below (Below.refl _ wr).drew)
      have j0 : (0 : Int) ≤ (a : Int) := by omega
      have j1 : (a : Int) ≤ (p : Int) := by omega
      have j2 : (p : Int) ≤ (t.size : Int) := by omega
      have eX := hX.symm
      clear hX hXD HD HST
      go_wp2_with fail
      refine wp_region_noPanic ?_
      refine wp_region_held_drew (S := (fun w' => w'.cell? ⟨g, 0, none⟩ = some (.string t) ∧ w'.cell? ⟨g, 1, none⟩ = some (.int .i64 (a : Int)))) (by kernel_rfl) (⟨SC.out.c0, SC.out.c1⟩) (fun hHeld => ?_)
      refine wpAnyH_take (i := 0) (oi := { dst := some 38, op := Op.move (Operand.tmp 0), type := 95, pos := "l03_codec.go:207", after := #[], guard := none }) (v := ?vd0) rfl (by kernel_rfl) (by kernel_rfl) (by kernel_rfl) (fun _ _ _ h => h) (Or.inl ⟨by rfl, ?hyd0⟩) (by assumption) ?restd0
      case hyd0 => intro w hSw; (try dsimp only at hSw); (obtain ⟨s0, s1⟩ := hSw); (first | (go_simp; done) | (go_simp; with_reducible rfl) | (with_reducible rfl))
      try simp only [Act.put, List.setIfInBounds_toArray, List.set_cons_zero, List.set_cons_succ]
      refine wpAnyH_take (i := 1) (oi := { dst := some 39, op := Op.nilCheck (Operand.tmp 38), type := 0, pos := "l03_codec.go:207", after := #[{ on := 0, ground := Ground.data }], guard := none }) (v := ?vd1) rfl (by kernel_rfl) (by kernel_rfl) (by kernel_rfl) (fun _ _ _ h => h) (Or.inl ⟨by rfl, ?hyd1⟩) (by assumption) ?restd1
      case hyd1 => intro w hSw; (try dsimp only at hSw); (obtain ⟨s0, s1⟩ := hSw); (first | (go_simp; done) | (go_simp; with_reducible rfl) | (with_reducible rfl))
      try simp only [Act.put, List.setIfInBounds_toArray, List.set_cons_zero, List.set_cons_succ]
      refine wpAnyH_take (i := 2) (oi := { dst := some 40, op := Op.fieldAddr 115 (Operand.tmp 39) 0, type := 0, pos := "l03_codec.go:207", after := #[{ on := 1, ground := Ground.data }], guard := none }) (v := ?vd2) rfl (by kernel_rfl) (by kernel_rfl) (by kernel_rfl) (fun _ _ _ h => h) (Or.inl ⟨by rfl, ?hyd2⟩) (by assumption) ?restd2
      case hyd2 => intro w hSw; (try dsimp only at hSw); (obtain ⟨s0, s1⟩ := hSw); (first | (go_simp; done) | (go_simp; with_reducible rfl) | (with_reducible rfl))
      try simp only [Act.put, List.setIfInBounds_toArray, List.set_cons_zero, List.set_cons_succ]
      refine wpAnyH_take (i := 3) (oi := { dst := some 41, op := Op.load 9 (Operand.tmp 40), type := 9, pos := "l03_codec.go:207", after := #[{ on := 2, ground := Ground.data }], guard := none }) (v := ?vd3) rfl (by kernel_rfl) (by kernel_rfl) (by kernel_rfl) (fun _ _ _ h => h) (Or.inl ⟨by rfl, ?hyd3⟩) (by assumption) ?restd3
      case hyd3 => intro w hSw; (try dsimp only at hSw); (obtain ⟨s0, s1⟩ := hSw); (first | (go_simp; done) | (go_simp; with_reducible rfl) | (with_reducible rfl))
      try simp only [Act.put, List.setIfInBounds_toArray, List.set_cons_zero, List.set_cons_succ]
      refine wpAnyH_take (i := 4) (oi := { dst := some 42, op := Op.move (Operand.tmp 0), type := 95, pos := "l03_codec.go:207", after := #[], guard := none }) (v := ?vd4) rfl (by kernel_rfl) (by kernel_rfl) (by kernel_rfl) (fun _ _ _ h => h) (Or.inl ⟨by rfl, ?hyd4⟩) (by assumption) ?restd4
      case hyd4 => intro w hSw; (try dsimp only at hSw); (obtain ⟨s0, s1⟩ := hSw); (first | (go_simp; done) | (go_simp; with_reducible rfl) | (with_reducible rfl))
      try simp only [Act.put, List.setIfInBounds_toArray, List.set_cons_zero, List.set_cons_succ]
      refine wpAnyH_take (i := 5) (oi := { dst := some 43, op := Op.nilCheck (Operand.tmp 42), type := 0, pos := "l03_codec.go:207", after := #[{ on := 4, ground := Ground.data }], guard := none }) (v := ?vd5) rfl (by kernel_rfl) (by kernel_rfl) (by kernel_rfl) (fun _ _ _ h => h) (Or.inl ⟨by rfl, ?hyd5⟩) (by assumption) ?restd5
      case hyd5 => intro w hSw; (try dsimp only at hSw); (obtain ⟨s0, s1⟩ := hSw); (first | (go_simp; done) | (go_simp; with_reducible rfl) | (with_reducible rfl))
      try simp only [Act.put, List.setIfInBounds_toArray, List.set_cons_zero, List.set_cons_succ]
      refine wpAnyH_take (i := 6) (oi := { dst := some 44, op := Op.fieldAddr 115 (Operand.tmp 43) 1, type := 0, pos := "l03_codec.go:207", after := #[{ on := 5, ground := Ground.data }], guard := none }) (v := ?vd6) rfl (by kernel_rfl) (by kernel_rfl) (by kernel_rfl) (fun _ _ _ h => h) (Or.inl ⟨by rfl, ?hyd6⟩) (by assumption) ?restd6
      case hyd6 => intro w hSw; (try dsimp only at hSw); (obtain ⟨s0, s1⟩ := hSw); (first | (go_simp; done) | (go_simp; with_reducible rfl) | (with_reducible rfl))
      try simp only [Act.put, List.setIfInBounds_toArray, List.set_cons_zero, List.set_cons_succ]
      refine wpAnyH_take (i := 7) (oi := { dst := some 45, op := Op.load 3 (Operand.tmp 44), type := 3, pos := "l03_codec.go:207", after := #[{ on := 6, ground := Ground.data }], guard := none }) (v := ?vd7) rfl (by kernel_rfl) (by kernel_rfl) (by kernel_rfl) (fun _ _ _ h => h) (Or.inl ⟨by rfl, ?hyd7⟩) (by assumption) ?restd7
      case hyd7 => intro w hSw; (try dsimp only at hSw); (obtain ⟨s0, s1⟩ := hSw); (first | (go_simp; done) | (go_simp; with_reducible rfl) | (with_reducible rfl))
      try simp only [Act.put, List.setIfInBounds_toArray, List.set_cons_zero, List.set_cons_succ]
      refine wpAnyH_take (i := 8) (oi := { dst := some 46, op := Op.move (Operand.tmp 3), type := 3, pos := "l03_codec.go:207", after := #[], guard := none }) (v := ?vd8) rfl (by kernel_rfl) (by kernel_rfl) (by kernel_rfl) (fun _ _ _ h => h) (Or.inl ⟨by rfl, ?hyd8⟩) (by assumption) ?restd8
      case hyd8 => intro w hSw; (try dsimp only at hSw); (obtain ⟨s0, s1⟩ := hSw); (first | (go_simp; done) | (go_simp; with_reducible rfl) | (with_reducible rfl))
      try simp only [Act.put, List.setIfInBounds_toArray, List.set_cons_zero, List.set_cons_succ]
      refine wpAnyH_take (i := 9) (oi := { dst := some 47, op := Op.slice 9 (Operand.tmp 41) (some (Operand.tmp 45)) (some (Operand.tmp 46)) none, type := 9, pos := "l03_codec.go:207", after := #[{ on := 3, ground := Ground.data }, { on := 7, ground := Ground.data }, { on := 8, ground := Ground.data }], guard := none }) (v := ?vd9) rfl (by kernel_rfl) (by kernel_rfl) (by kernel_rfl) (fun _ _ _ h => h) (Or.inl ⟨by rfl, ?hyd9⟩) (by assumption) ?restd9
      case hyd9 => intro w hSw; (try dsimp only at hSw); (obtain ⟨s0, s1⟩ := hSw); (first | (go_simp; done) | (go_simp; with_reducible rfl) | (with_reducible rfl))
      try simp only [Act.put, List.setIfInBounds_toArray, List.set_cons_zero, List.set_cons_succ]
      refine wpAnyH_ready (rs := [10]) (by kernel_rfl) (by simp) ?_
      refine AllReadyH.cons (o := { dst := some 48, op := Op.call { callee := Callee.value (Operand.func 133), args := #[Operand.tmp 47], argTypes := #[9] }, type := 191, pos := "l03_codec.go:207", after := #[{ on := 9, ground := Ground.data }], guard := none }) rfl (fun K hK => ?_) AllReadyH.nil
      go_simp
      refine (HRD.out wr.drew (grown_of_below (Below.refl _ wr).drew _)).mono ?_
      rintro e w1 ⟨n, b, rfl, hn, hn0, hb1⟩
      have SC1 := Lib.hid (SC.out.below hb1)
      go_wp2_with fail
      refine hK.out _ _ (⟨SC1.out.c0, SC1.out.c1⟩) (fun hHeld => ?_)
      clear hK K
      try simp only [Act.put, List.setIfInBounds_toArray, List.set_cons_zero, List.set_cons_succ]
      refine wpAnyH_take (i := 11) (oi := { dst := some 37, op := Op.move (Operand.tmp 48), type := 191, pos := "l03_codec.go:207", after := #[{ on := 10, ground := Ground.data }], guard := none }) (v := ?vd11) rfl (by kernel_rfl) (by kernel_rfl) (by kernel_rfl) (fun _ _ _ h => h) (Or.inl ⟨by rfl, ?hyd11⟩) (by assumption) ?restd11
      case hyd11 => intro w hSw; (try dsimp only at hSw); (obtain ⟨s0, s1⟩ := hSw); (first | (go_simp; done) | (go_simp; with_reducible rfl) | (with_reducible rfl))
      try simp only [Act.put, List.setIfInBounds_toArray, List.set_cons_zero, List.set_cons_succ]
      refine wpAnyH_take (i := 12) (oi := { dst := some 49, op := Op.extract (Operand.tmp 37) 0, type := 3, pos := "l03_codec.go:207", after := #[{ on := 11, ground := Ground.data }], guard := none }) (v := ?vd12) rfl (by kernel_rfl) (by kernel_rfl) (by kernel_rfl) (fun _ _ _ h => h) (Or.inl ⟨by rfl, ?hyd12⟩) (by assumption) ?restd12
      case hyd12 => intro w hSw; (try dsimp only at hSw); (obtain ⟨s0, s1⟩ := hSw); (first | (go_simp; done) | (go_simp; with_reducible rfl) | (with_reducible rfl))
      try simp only [Act.put, List.setIfInBounds_toArray, List.set_cons_zero, List.set_cons_succ]
      refine wpAnyH_take (i := 13) (oi := { dst := some 50, op := Op.extract (Operand.tmp 37) 1, type := 4, pos := "l03_codec.go:207", after := #[{ on := 11, ground := Ground.data }, { on := 14, ground := Ground.gcOnly Departure.lateStores }], guard := none }) (v := ?vd13) rfl (by kernel_rfl) (by kernel_rfl) (by kernel_rfl) (fun _ _ _ h => h) (Or.inl ⟨by rfl, ?hyd13⟩) (by assumption) ?restd13
      case hyd13 => intro w hSw; (try dsimp only at hSw); (obtain ⟨s0, s1⟩ := hSw); (first | (go_simp; done) | (go_simp; with_reducible rfl) | (with_reducible rfl))
      try simp only [Act.put, List.setIfInBounds_toArray, List.set_cons_zero, List.set_cons_succ]
      refine wpAnyH_take (i := 14) (oi := { dst := some 4, op := Op.assign (Operand.tmp 49), type := 3, pos := "l03_codec.go:207", after := #[{ on := 12, ground := Ground.data }, { on := 10, ground := Ground.chain }, { on := 0, ground := Ground.phase }, { on := 1, ground := Ground.phase }, { on := 2, ground := Ground.phase }, { on := 3, ground := Ground.phase }, { on := 4, ground := Ground.phase }, { on := 5, ground := Ground.phase }, { on := 6, ground := Ground.phase }, { on := 7, ground := Ground.phase }, { on := 8, ground := Ground.phase }, { on := 9, ground := Ground.phase }, { on := 10, ground := Ground.phase }, { on := 11, ground := Ground.phase }, { on := 12, ground := Ground.phase }, { on := 13, ground := Ground.textOnly Departure.lateStores }], guard := none }) (v := ?vd14) rfl (by kernel_rfl) (by kernel_rfl) (by kernel_rfl) (fun _ _ _ h => h) (Or.inl ⟨by rfl, ?hyd14⟩) (by assumption) ?restd14
      case hyd14 => intro w hSw; (try dsimp only at hSw); (obtain ⟨s0, s1⟩ := hSw); (first | (go_simp; done) | (go_simp; with_reducible rfl) | (with_reducible rfl))
      try simp only [Act.put, List.setIfInBounds_toArray, List.set_cons_zero, List.set_cons_succ]
      refine wpAnyH_take (i := 15) (oi := { dst := some 5, op := Op.assign (Operand.tmp 50), type := 4, pos := "l03_codec.go:207", after := #[{ on := 13, ground := Ground.data }, { on := 14, ground := Ground.chain }, { on := 0, ground := Ground.phase }, { on := 1, ground := Ground.phase }, { on := 2, ground := Ground.phase }, { on := 3, ground := Ground.phase }, { on := 4, ground := Ground.phase }, { on := 5, ground := Ground.phase }, { on := 6, ground := Ground.phase }, { on := 7, ground := Ground.phase }, { on := 8, ground := Ground.phase }, { on := 9, ground := Ground.phase }, { on := 10, ground := Ground.phase }, { on := 11, ground := Ground.phase }, { on := 12, ground := Ground.phase }, { on := 13, ground := Ground.phase }, { on := 14, ground := Ground.phase }], guard := none }) (v := ?vd15) rfl (by kernel_rfl) (by kernel_rfl) (by kernel_rfl) (fun _ _ _ h => h) (Or.inl ⟨by rfl, ?hyd15⟩) (by assumption) ?restd15
      case hyd15 => intro w hSw; (try dsimp only at hSw); (obtain ⟨s0, s1⟩ := hSw); (first | (go_simp; done) | (go_simp; with_reducible rfl) | (with_reducible rfl))
      try simp only [Act.put, List.setIfInBounds_toArray, List.set_cons_zero, List.set_cons_succ]
      refine wpAnyH_done (by kernel_rfl) ?_ _
      refine NoPanic.normal ?_
      have b1 : wr.grownBy w1 (some g) := grown_trans (grown_of_below (Below.refl _ wr).drew _) (grown_of_below hb1 _)
      cases b
      · obtain rfl : n = 0 := hn0 rfl
        have HN := Lib.hid hn; clear hn hn0
        have c2' := hHeld
        clear hHeld c2' hb1 SC HRD
        go_wp2_with fail
        refine (fail_g g a t _ x w1 SC1.out Hx.out).mono ?_
        rintro e w3 ⟨rfl, y, hy, hs3, hb3⟩
        have HNN := Lib.hid (HXN.out 0 false y HN.out (fun h => by cases h) (fun _ => hy))
        have H4 := Lib.hid (hs3.go p)
        have b3 := Lib.hid (grown_setCell (grown_trans b1 hb3) ⟨g, 1, none⟩ (Or.inl rfl) (.int .i64 (p : Int)))
        obtain ⟨d0, d1, d2, dz, dlt⟩ := hs3
        have f1 := dz 1
        clear dz d2 d0 hb3 b1 SC1 HXN HN hy c0 c1
        go_wp2
        go_ret
        refine ⟨0, R.take d, R.drop d, y, rfl, ?_, HNN.out, ?_⟩
        · rw [HDL.out]; exact H4.out
        · exact b3.out
      · have HNN := Lib.hid (HXN.out n true x hn (fun _ => rfl) (fun h => by cases h))
        have hs3 := SC1.out
        have H4 := Lib.hid (hs3.go p)
        have b3 := Lib.hid (grown_setCell b1 ⟨g, 1, none⟩ (Or.inl rfl) (.int .i64 (p : Int)))
        obtain ⟨d0, d1, d2, dz, dlt⟩ := hs3
        have f1 := dz 1
        clear dz d2 d0 b1 SC1 HXN hn hn0 hHeld hb1 SC HRD c0 c1
        go_wp2
        go_ret
        refine ⟨n, R.take d, R.drop d, x, rfl, ?_, HNN.out, ?_⟩
        · rw [HDL.out]; exact H4.out
        · exact b3.out

end Go.Proofs.YtjmfffmjfbpgjaaGreatDoor
