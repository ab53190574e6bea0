/-
  Contract of the program's scanner.sample. Conditions: the library's table of powers of ten is as its text lays it, its two errors' variables hold errors; a text's length.
-/
import Derived.Test.YtjmfffmjfbpgjaaGreatDoorNumI
import Derived.Test.YtjmfffmjfbpgjaaGreatDoorSpecRdS
namespace Go.Proofs.YtjmfffmjfbpgjaaGreatDoor
open Go.ChangeShapes Go.WideShapes Go.ChangeAt Go.RowKit
set_option linter.unusedVariables false
set_option linter.unusedSimpArgs false

theorem run_max : ∀ {D N R1 R2 : List UInt8}, D ++ R1 = N ++ R2 → (∀ b ∈ D, numC b) → (∀ b ∈ N, numC b) → (∀ b r, R1 = b :: r → ¬ numC b) → (∀ b r, R2 = b :: r → ¬ numC b) → D = N ∧ R1 = R2
  | [], [], _, _, e, _, _, _, _ => ⟨rfl, e⟩
  | [], n :: N, R1, R2, e, _, hN, h1, _ => absurd (hN n (by simp)) (h1 n (N ++ R2) (by simpa using e))
  | d :: D, [], R1, R2, e, hD, _, _, h2 => absurd (hD d (by simp)) (h2 d (D ++ R1) (by simpa using e.symm))
  | d :: D, n :: N, R1, R2, e, hD, hN, h1, h2 => by
    simp at e
    obtain ⟨rfl, e⟩ := e
    obtain ⟨e1, e2⟩ := run_max e (fun b hb => hD b (by simp [hb])) (fun b hb => hN b (by simp [hb])) h1 h2
    exact ⟨by rw [e1], e2⟩

def samL (s : GSam) : List UInt8 := (samT s).data.toList

theorem samL_eq (s : GSam) : samL s = (numT s.t).data.toList ++ (61 :: (numT s.v).data.toList) := by simp [samL, samT, ByteArray.data_append]

/-- what sample does, none having been wrong ahead -/
def Sampled (t : ByteArray) (R : List UInt8) (a : Nat) (s : GSam) (a' : Nat) (x' : Value) : Prop := (x' = .nilIface ∧ s.fit ∧ ∃ R', R = samL s ++ R' ∧ a' = a + (samL s).length ∧ ∀ b r, R' = b :: r → ¬ numC b) ∨ (Bad x' ∧ ∀ s R', Small s.t → Small s.v → (∀ b r, R' = b :: r → ¬ numC b) → R ≠ samL s ++ R')

theorem not_eq : ∀ b r, (61 : UInt8) :: r = b :: r → ¬ numC b := by
  intro b r e h
  injection e with e _
  subst e
  rcases h with h | h
  · unfold isDig at h; exact absurd h.2 (by decide)
  · exact absurd h (by decide)

theorem bad_nil : ¬ Bad .nilIface := fun ⟨s, n, e⟩ => by cases e

theorem sampled_of {t : ByteArray} {R D R1 R2 D2 R3 : List UInt8} {a a2 : Nat} {n m : Int} {x1 x2 x3 : Value} (h1 : Numbered R a .nilIface n D R1 x1) (hm : (x2 = x1 ∧ R1 = 61 :: R2 ∧ a2 = a + D.length + 1) ∨ (Bad x2 ∧ ∀ R', R1 ≠ 61 :: R')) (h2 : Numbered R2 a2 x2 m D2 R3 x3) : Sampled t R a ⟨n, m⟩ (a2 + D2.length) x3 := by
  obtain ⟨e1, c1, s1, k1⟩ := h1
  obtain ⟨e2, c2, s2, k2⟩ := h2
  by_cases hx3 : x3 = .nilIface
  · subst hx3
    rcases k2 with ⟨rfl, d2, f2⟩ | ⟨b, _⟩
    · rcases hm with ⟨rfl, rfl, rfl⟩ | ⟨b, _⟩
      · rcases k1 with ⟨_, d1, f1⟩ | ⟨b, _⟩
        · refine Or.inl ⟨rfl, ⟨f1, f2⟩, R3, ?_, ?_, s2⟩
          · rw [e1, e2, samL_eq, d1, d2]
            simp
          · rw [samL_eq, ← d1, ← d2]
            simp
            omega
        · exact absurd b bad_nil
      · exact absurd b bad_nil
    · exact absurd b bad_nil
  · have hb3 : Bad x3 := by
      rcases k2 with ⟨e, _⟩ | ⟨b, _⟩
      · rcases hm with ⟨e', _⟩ | ⟨b, _⟩
        · rcases k1 with ⟨e'', _⟩ | ⟨b, _⟩
          · exact absurd (by rw [e, e', e'']) hx3
          · rw [e, e']; exact b
        · rw [e]; exact b
      · exact b
    refine Or.inr ⟨hb3, fun s R' ht hv hr e => ?_⟩
    rw [samL_eq, e1] at e
    obtain ⟨g1, g2⟩ := run_max (R2 := 61 :: ((numT s.v).data.toList ++ R')) (by simpa using e) c1 (num_bytes s.t) s1 (fun b r e => by injection e with e _; subst e; exact not_eq 61 [] rfl)
    rcases k1 with ⟨q1, _⟩ | ⟨_, b⟩
    · rcases hm with ⟨q2, r1, _⟩ | ⟨_, b⟩
      · rw [r1] at g2
        injection g2 with _ g2
        rw [e2] at g2
        obtain ⟨g3, _⟩ := run_max g2 c2 (num_bytes s.v) s2 hr
        rcases k2 with ⟨q3, _⟩ | ⟨_, b⟩
        · exact hx3 (by rw [q3, q2, q1])
        · exact b s.v hv g3
      · exact b _ g2
    · exact b s.t ht g1

/-- a sample's variable, of zeros, in block r -/
def ZeroS (w : World) (r : Nat) : Prop := Two w r (.int .i64 0) (.int .i64 0) ∧ Free w (some ⟨r, 0, none⟩) ∧ r < w.heap.size

theorem ZeroS.grown {w w' : World} {r g : Nat} (h : ZeroS w r) (hg : w.grownBy w' (some g)) (hne : r ≠ g) : ZeroS w' r := by
  have hblk := hg.block r h.2.2 (fun e => hne (by injection e))
  refine ⟨h.1.grown hg h.2.2 (fun g' e => by injection e with e; omega), fun b e i => ?_, Nat.lt_of_lt_of_le h.2.2 hg.size⟩
  simp [blk] at e
  subst e
  have := h.2.1 r rfl i
  unfold World.frozen? at this ⊢
  rw [hblk]
  exact this

theorem Scan.grown0 {w w' : World} {g a : Nat} {t : ByteArray} {x : Value} (h : Scan w g t a x) (hb : Below w.heap.size w w') : Scan w' g t a x := h.below hb

set_option maxRecDepth 100000 in
theorem sample_g (g a : Nat) (t : ByteArray) (x : Value) (U R : List UInt8) (w : World) (h : Scan w g t a x) (hx : ErrV x) (hp : Parted t a U R) (hs : t.size ≤ 1000000) (hEP : ∀ w', w.grownBy w' (some g) → Errs w' ∧ Pow w') :
    Calls Tryz.prog 52 #[.pointer (some ⟨g, 0, none⟩)] w fun e w' => ∃ (s : GSam) (a' : Nat) (x' : Value), e = .returned (.agg #[.int .i64 s.t, .int .i64 s.v]) ∧ Scan w' g t a' x' ∧ (x = .nilIface → Sampled t R a s a' x') ∧ (Bad x → Bad x') ∧ a' ≤ t.size ∧ w.grownBy w' (some g) := by
  have H := Lib.hid h
  have HX0 := Lib.hid hx; clear hx
  have HP := Lib.hid hp
  have HEP := Lib.hid hEP; clear hEP hp
  have hlt := h.lt
  clear h
  go_enter Tryz.func52, Tryz.ntmps52
  go_wp2_with fail
  have hZ : ZeroS (w.alloc (.cells #[.int .i64 0, .int .i64 0] 89)) w.heap.size := ⟨Two.new w _ _ _, free_alloc w _ _ 0, by simp⟩
  have hb0 : Below w.heap.size w (w.alloc (.cells #[.int .i64 0, .int .i64 0] 89)) := bal (Below.refl _ _) _
  generalize w.alloc (.cells #[.int .i64 0, .int .i64 0] 89) = w0 at *
  have g0 : w.grownBy w0 (some g) := grown_of_below hb0 _
  have hS0 := H.out.below hb0
  have hrg : w.heap.size ≠ g := by omega
  have HZ := Lib.hid hZ
  have HG0 := Lib.hid g0
  clear hZ
  refine (number_g g a t x U R w0 hS0 HX0.out HP.out hs (fun w' h => HEP.out w' (grown_trans HG0.out h))).mono ?_
  rintro e w1 ⟨n, D, R1, x1, rfl, hS1, hN1, hg1⟩
  have HS1 := Lib.hid hS1
  have HN1 := Lib.hid hN1
  have HG1 := Lib.hid (grown_trans HG0.out hg1)
  have HZ1 := Lib.hid (HZ.out.grown hg1 hrg)
  have HP1 := Lib.hid (show Parted t (a + D.length) (U ++ D) R1 from by have := HP.out; rw [hN1.1] at this; exact this.on)
  have HX1 := Lib.hid (show ErrV x1 from by rcases hN1.2.2.2 with ⟨e, _⟩ | ⟨b, _⟩; (· rw [e]; exact HX0.out); (· exact Or.inr b))
  have HB1 := Lib.hid (show Bad x → Bad x1 from fun hb => by rcases hN1.2.2.2 with ⟨e, _⟩ | ⟨b, _⟩; (· rw [e]; exact hb); (· exact b))
  clear hS0 hS1 hN1 hg1 hb0 g0 HZ HG0
  obtain ⟨a1, ha1⟩ : ∃ a1, a1 = a + D.length := ⟨_, rfl⟩
  rw [← ha1] at HS1 HP1
  have HA1 := Lib.hid ha1; clear ha1
  go_wp2_with fail
  refine (mark_g g a1 t ⟨#[61]⟩ x1 (U ++ D) R1 w1 HS1.out HX1.out HP1.out (by omega) (by decide)).mono ?_
  rintro e w2 ⟨rfl, a2, x2, hS2, hM2, hg2⟩
  have HS2 := Lib.hid hS2
  have HG2 := Lib.hid (grown_trans HG1.out hg2)
  have HZ2 := Lib.hid (HZ1.out.grown hg2 hrg)
  have hM3 : ∃ U2 R2, Parted t a2 U2 R2 ∧ ((x2 = x1 ∧ R1 = 61 :: R2 ∧ a2 = a + D.length + 1) ∨ (Bad x2 ∧ ∀ R', R1 ≠ 61 :: R')) := by
    rcases hM2 with ⟨e1, e2, R', e3⟩ | ⟨b, e2, hn⟩
    · have e3' : R1 = [61] ++ R' := e3
      refine ⟨U ++ D ++ [61], R', ?_, Or.inl ⟨e1, e3, by rw [e2, HA1.out]; rfl⟩⟩
      have := HP1.out
      rw [e3'] at this
      rw [e2]
      exact this.on
    · exact ⟨U ++ D, R1, by rw [e2]; exact HP1.out, Or.inr ⟨b, fun R' e => hn R' e⟩⟩
  obtain ⟨U2, R2, hP2, hM3⟩ := hM3
  have HP2 := Lib.hid hP2
  have HM3 := Lib.hid hM3
  have HX2 := Lib.hid (show ErrV x2 from by rcases hM3 with ⟨e, _⟩ | ⟨b, _⟩; (· rw [e]; exact HX1.out); (· exact Or.inr b))
  have HB2 := Lib.hid (show Bad x → Bad x2 from fun hb => by rcases hM3 with ⟨e, _⟩ | ⟨b, _⟩; (· rw [e]; exact HB1.out hb); (· exact b))
  clear hS2 hM2 hg2 hP2 hM3 HS1 HG1 HZ1 HP1 HX1 HA1
  go_wp2_with fail
  refine (number_g g a2 t x2 U2 R2 w2 HS2.out HX2.out HP2.out hs (fun w' h => HEP.out w' (grown_trans HG2.out h))).mono ?_
  rintro e w3 ⟨m, D2, R3, x3, rfl, hS3, hN3, hg3⟩
  have HSa := Lib.hid (show x = .nilIface → Sampled t R a ⟨n, m⟩ (a2 + D2.length) x3 from fun e => by have h1 := HN1.out; rw [e] at h1; exact sampled_of (t := t) h1 HM3.out hN3)
  have HB3 := Lib.hid (show Bad x → Bad x3 from fun hb => by rcases hN3.2.2.2 with ⟨e, _⟩ | ⟨b, _⟩; (· rw [e]; exact HB2.out hb); (· exact b))
  have hle : a2 + D2.length ≤ t.size := by
    have := HP2.out.size
    have e := congrArg List.length hN3.1
    rw [List.length_append] at e
    omega
  have hG3 := grown_trans HG2.out hg3
  have hZ3 := HZ2.out.grown hg3 hrg
  obtain ⟨r, hr⟩ : ∃ r, r = w.heap.size := ⟨_, rfl⟩
  rw [← hr] at hZ3 hrg ⊢
  have HR0 := Lib.hid (Nat.le_of_eq hr.symm); clear hr
  have HS4 := Lib.hid (show Scan ((w3.setCell ⟨r, 0, none⟩ (.int .i64 n)).setCell ⟨r, 1, none⟩ (.int .i64 m)) g t (a2 + D2.length) x3 from by
    have f : ∀ (W : World) (i : Nat) (v : Value) (k : Nat), (W.setCell ⟨r, i, none⟩ v).cell? ⟨g, k, none⟩ = W.cell? ⟨g, k, none⟩ := fun W i v k => World.cell?_setCell_other W ⟨r, i, none⟩ ⟨g, k, none⟩ v (fun e => hrg (by injection e))
    exact ⟨by rw [f, f]; exact hS3.c0, by rw [f, f]; exact hS3.c1, by rw [f, f]; exact hS3.c2, fun i => by rw [frozen_setCell, frozen_setCell]; exact hS3.fz i, by rw [size_setCell, size_setCell]; exact hS3.lt⟩)
  have y0 := hZ3.2.1 r rfl 0
  have y1 := hZ3.2.1 r rfl 1
  obtain ⟨⟨z0, z1⟩, _, hr3⟩ := hZ3
  have HGF := Lib.hid hG3
  clear hS3 hN3 hg3 HS2 HG2 HZ2 HP2 HM3 HX2 HN1 hG3
  go_wp2
  refine bodyPost_ret (v := .agg #[.int .i64 n, .int .i64 m]) (by simp [results, Tryz.results52, go_sem, *]) rfl ⟨⟨n, m⟩, a2 + D2.length, x3, rfl, HS4.out, HSa.out, HB3.out, hle, ?_⟩
  exact grown_setCell (grown_setCell HGF.out ⟨r, 0, none⟩ (Or.inr HR0.out) _) ⟨r, 1, none⟩ (Or.inr HR0.out) _

end Go.Proofs.YtjmfffmjfbpgjaaGreatDoor
