/-
  Contract of the program's readList of samples, which jumps. Conditions: the library's table of powers of ten is as its text lays it, its two errors' variables hold errors; a text's length.
-/
import Derived.Test.YtjmfffmjfbpgjaaGreatDoorSamI
import Derived.ScopeJumps
import Derived.WalkMore
namespace Go.Proofs.YtjmfffmjfbpgjaaGreatDoor
open Go.ChangeShapes Go.WideShapes Go.ChangeAt Go.RowKit
set_option linter.unusedVariables false
set_option linter.unusedSimpArgs false

/-- as Q; by a goto to a label: J of it -/
def jumps (J : Nat → Act → World → Prop) (Q : Exit → Act → World → Prop) : Exit → Act → World → Prop
  | .goto l, a, w => J l a w
  | e, a, w => Q e a w

/-- the code behind a label -/
def behind (c : Code) (l : Nat) : Code := match findLabel c l with
  | some (.seq .skip r) => r
  | _ => .skip

/-- a scope with labels: what holds at each jump, with a measure that falls -/
theorem wp_scope_labels {P : Program} {a : Act} {w : World} {Q : Exit → Act → World → Prop} {c : Code} (J : Nat → Act → World → Prop) (μ : Nat → Act → World → Nat) (hf : ∀ l a w, J l a w → findLabel c l = some (.seq .skip (behind c l)))
    (first : (∀ l a w, J l a w → (behind c l).wp P (jumps J Q) a w) → c.wp P (jumps J Q) a w)
    (pass : ∀ l a w, J l a w → (behind c l).wp P (jumps (fun l' a' w' => J l' a' w' ∧ μ l' a' w' < μ l a w) Q) a w) : (Code.scope c).wp P Q a w := by
  replace first := first (fun l a w h => Code.wp_mono (fun e a' w' hq => by cases e <;> first | exact hq | exact hq.1) (pass l a w h))
  intro b k cs
  obtain ⟨rest, hrest⟩ : ∃ rest : Nat → Code, rest = fun l => Code.seq .skip (behind c l) := ⟨_, rfl⟩
  replace hf : ∀ l a w, J l a w → findLabel c l = some (rest l) := fun l a w h => by rw [hrest]; exact hf l a w h
  replace pass : ∀ l a w, J l a w → (rest l).wp P (jumps (fun l' a' w' => J l' a' w' ∧ μ l' a' w' < μ l a w) Q) a w := fun l a w h => by
    rw [hrest]
    exact wp_seq (wp_skip (pass l a w h))
  clear hrest
  have hg : ∀ l a w, J l a w → gotoIn l (.inScope c :: k) = some (.code (rest l) :: .inScope c :: k) := fun l a w h => by simp [gotoIn, hf l a w h]
  have key : ∀ n l a w, μ l a w = n → J l a w → ∃ e a' w', Q e a' w' ∧ Arrives P (lone (b.at a (.code (rest l) :: .inScope c :: k)) cs w) b k cs e a' w' := by
    intro n
    induction n using Nat.strongRecOn with
    | _ n ih =>
      intro l a w hn hJ
      obtain ⟨e, a₁, w₁, hq, harr⟩ := pass l a w hJ b (.inScope c :: k) cs
      cases e with
      | normal => exact ⟨.normal, a₁, w₁, hq, Steps.trans harr (.one step_inScope)⟩
      | exit id => exact ⟨.exit id, a₁, w₁, hq, fun k' hk => harr k' (by simp [exitTo, hk])⟩
      | goto l' =>
        obtain ⟨hJ', hlt⟩ := hq
        obtain ⟨e₂, a₂, w₂, hq₂, harr₂⟩ := ih _ (by omega) l' a₁ w₁ rfl hJ'
        exact ⟨e₂, a₂, w₂, hq₂, .of_steps (harr _ (hg _ _ _ hJ')) harr₂⟩
      | ret => exact ⟨_, a₁, w₁, hq, harr⟩
      | panic ch => exact ⟨_, a₁, w₁, hq, harr⟩
      | outgrown => exact ⟨_, a₁, w₁, hq, harr⟩
  obtain ⟨e, a₁, w₁, hq, harr⟩ := first b (.inScope c :: k) cs
  cases e with
  | normal => exact ⟨.normal, a₁, w₁, hq, .head step_scope (Steps.trans harr (.one step_inScope))⟩
  | exit id => exact ⟨.exit id, a₁, w₁, hq, fun k' hk => .head step_scope (harr k' (by simp [exitTo, hk]))⟩
  | goto l' =>
    obtain ⟨e₂, a₂, w₂, hq₂, harr₂⟩ := key _ l' a₁ w₁ rfl hq
    exact ⟨e₂, a₂, w₂, hq₂, .of_steps (.head step_scope (harr _ (hg _ _ _ hq))) harr₂⟩
  | ret => exact ⟨_, a₁, w₁, hq, .of_steps (.one step_scope) harr⟩
  | panic ch => exact ⟨_, a₁, w₁, hq, .of_steps (.one step_scope) harr⟩
  | outgrown => exact ⟨_, a₁, w₁, hq, .of_steps (.one step_scope) harr⟩

/-- what stands behind pieces that were read is the rest of them -/
theorem pieces_rest {c : UInt8} : ∀ {ps qs : List ByteArray} {R : List UInt8} {last : ByteArray}, flatC c ps ++ R = flatC c qs ++ last.data.toList → (∀ p ∈ ps, c ∉ p.data.toList) → (∀ p ∈ qs, c ∉ p.data.toList) → c ∉ last.data.toList → ∃ rs, qs = ps ++ rs ∧ R = flatC c rs ++ last.data.toList
  | [], qs, R, last, e, _, _, _ => ⟨qs, rfl, by simpa [flatC] using e⟩
  | p :: ps, [], R, last, e, hp, _, hl => by
    exfalso
    apply hl
    have e' : last.data.toList = flatC c (p :: ps) ++ R := by simpa [flatC] using e.symm
    rw [e']
    simp [flatC]
  | p :: ps, q :: qs, R, last, e, hp, hq, hl => by
    simp only [flatC, List.flatMap_cons, List.append_assoc, List.cons_append, List.nil_append] at e
    obtain ⟨e1, e2⟩ := app_inj (hp p (by simp)) (hq q (by simp)) e
    obtain ⟨rs, h1, h2⟩ := pieces_rest (ps := ps) (qs := qs) (R := R) (last := last) (by simpa [flatC] using e2) (fun x hx => hp x (by simp [hx])) (fun x hx => hq x (by simp [hx])) hl
    exact ⟨rs, by rw [ba_eq e1, h1]; rfl, h2⟩

/-- so far these were read, a blank behind each; R is left -/
def SoFar (t : ByteArray) (xs : List GSam) (U R : List UInt8) : Prop := U = flatC 32 (xs.map samT) ∧ t.data.toList = U ++ R ∧ ∀ s ∈ xs, s.fit

theorem notC_blank : ∀ b r, (32 : UInt8) :: r = b :: r → ¬ numC b := by
  intro b r e h
  injection e with e _
  subst e
  rcases h with h | h
  · unfold isDig at h; exact absurd h.1 (by decide)
  · exact absurd h (by decide)

/-- whatever samples the text is of, the next one stands at R's beginning -/
theorem next_of {t : ByteArray} {xs ys : List GSam} {U R : List UInt8} (h : SoFar t xs U R) (hz : t.size ≠ 0) (hy : SamRead t ys) : ∃ z zs R', ys.length = xs.length + 1 + zs ∧ Small z.t ∧ Small z.v ∧ R = samL z ++ R' ∧ (∀ b r, R' = b :: r → ¬ numC b) ∧ (zs = 0 ↔ R' = []) := by
  obtain ⟨hU, ht, _⟩ := h
  have hp : Pieces t 32 (ys.map samT) := by
    rcases hy.2.2 with ⟨_, h0⟩ | ⟨_, h⟩
    · exact absurd h0 hz
    · exact h
  obtain ⟨qs, last, e, hq⟩ := hp
  have hc : ∀ p ∈ qs ++ [last], (32 : UInt8) ∉ p.data.toList := by
    rw [← e]
    intro p hp
    obtain ⟨s, _, rfl⟩ := List.mem_map.1 hp
    exact samT_blank s
  rw [ht, hU] at hq
  obtain ⟨rs, e1, e2⟩ := pieces_rest hq (fun p hp => by
    obtain ⟨s, _, rfl⟩ := List.mem_map.1 hp
    exact samT_blank s) (fun p hp => hc p (by simp [hp])) (hc last (by simp))
  have hlen : ys.length = xs.length + rs.length + 1 := by
    have := congrArg List.length e
    rw [e1] at this
    simp at this
    omega
  cases rs with
  | nil =>
    have hm : last ∈ ys.map samT := by rw [e]; simp
    obtain ⟨z, hz', rfl⟩ := List.mem_map.1 hm
    have sm := samP_small hy.1 z hz'
    exact ⟨z, 0, [], by simpa using hlen, sm.1, sm.2, by rw [e2]; simp [flatC, samL], by simp, by simp⟩
  | cons r rs =>
    have hm : r ∈ ys.map samT := by rw [e, e1]; simp
    obtain ⟨z, hz', rfl⟩ := List.mem_map.1 hm
    have sm := samP_small hy.1 z hz'
    refine ⟨z, rs.length + 1, 32 :: (flatC 32 rs ++ last.data.toList), by simp at hlen; omega, sm.1, sm.2, by rw [e2]; simp [flatC, samL], fun b r e => ?_, by simp⟩
    injection e with e _
    subst e
    exact notC_blank 32 [] rfl

theorem next_blank {t : ByteArray} {xs ys : List GSam} {U R : List UInt8} (h : SoFar t xs U R) (hz : t.size ≠ 0) (hy : SamRead t ys) : ∃ z zs R', ys.length = xs.length + 1 + zs ∧ Small z.t ∧ Small z.v ∧ R = samL z ++ R' ∧ (∀ b r, R' = b :: r → ¬ numC b) ∧ (R' = [] ∨ ∃ r, R' = 32 :: r) := by
  obtain ⟨hU, ht, _⟩ := h
  have hp : Pieces t 32 (ys.map samT) := by
    rcases hy.2.2 with ⟨_, h0⟩ | ⟨_, h⟩
    · exact absurd h0 hz
    · exact h
  obtain ⟨qs, last, e, hq⟩ := hp
  have hc : ∀ p ∈ qs ++ [last], (32 : UInt8) ∉ p.data.toList := by
    rw [← e]
    intro p hp
    obtain ⟨s, _, rfl⟩ := List.mem_map.1 hp
    exact samT_blank s
  rw [ht, hU] at hq
  obtain ⟨rs, e1, e2⟩ := pieces_rest hq (fun p hp => by
    obtain ⟨s, _, rfl⟩ := List.mem_map.1 hp
    exact samT_blank s) (fun p hp => hc p (by simp [hp])) (hc last (by simp))
  have hlen : ys.length = xs.length + rs.length + 1 := by
    have := congrArg List.length e
    rw [e1] at this
    simp at this
    omega
  cases rs with
  | nil =>
    have hm : last ∈ ys.map samT := by rw [e]; simp
    obtain ⟨z, hz', rfl⟩ := List.mem_map.1 hm
    have sm := samP_small hy.1 z hz'
    exact ⟨z, 0, [], by simpa using hlen, sm.1, sm.2, by rw [e2]; simp [flatC, samL], by simp, Or.inl rfl⟩
  | cons r rs =>
    have hm : r ∈ ys.map samT := by rw [e, e1]; simp
    obtain ⟨z, hz', rfl⟩ := List.mem_map.1 hm
    have sm := samP_small hy.1 z hz'
    refine ⟨z, rs.length + 1, 32 :: (flatC 32 rs ++ last.data.toList), by simp at hlen; omega, sm.1, sm.2, by rw [e2]; simp [flatC, samL], fun b r e => ?_, Or.inr ⟨_, rfl⟩⟩
    injection e with e _
    subst e
    exact notC_blank 32 [] rfl

theorem samL_one {s z : GSam} {R1 R2 : List UInt8} (h : samL s ++ R1 = samL z ++ R2) (h1 : ∀ b r, R1 = b :: r → ¬ numC b) (h2 : ∀ b r, R2 = b :: r → ¬ numC b) : R1 = R2 := by
  rw [samL_eq, samL_eq] at h
  simp only [List.append_assoc, List.cons_append] at h
  obtain ⟨_, g2⟩ := run_max h (num_bytes s.t) (num_bytes z.t) (fun b r e => by injection e with e _; subst e; exact not_eq 61 [] rfl) (fun b r e => by injection e with e _; subst e; exact not_eq 61 [] rfl)
  injection g2 with _ g2
  exact (run_max g2 (num_bytes s.v) (num_bytes z.v) h1 h2).2

theorem soFar_end {t : ByteArray} {xs : List GSam} {s : GSam} {U R : List UInt8} (h : SoFar t xs U R) (hR : R = samL s) (hf : s.fit) : SamOf t (xs ++ [s]) ∧ ∀ x ∈ xs ++ [s], x.fit := by
  obtain ⟨hU, ht, hx⟩ := h
  refine ⟨Or.inr ⟨by simp, xs.map samT, samT s, by simp, by rw [ht, hU, hR]; rfl⟩, fun x hm => ?_⟩
  rcases List.mem_append.1 hm with hm | hm
  · exact hx x hm
  · simp at hm; subst hm; exact hf

theorem soFar_next {t : ByteArray} {xs : List GSam} {s : GSam} {U R R' : List UInt8} (h : SoFar t xs U R) (hR : R = samL s ++ 32 :: R') (hf : s.fit) : SoFar t (xs ++ [s]) (U ++ samL s ++ [32]) R' := by
  obtain ⟨hU, ht, hx⟩ := h
  refine ⟨by rw [hU]; simp [flatC, samL], by rw [ht, hR]; simp, fun x hm => ?_⟩
  rcases List.mem_append.1 hm with hm | hm
  · exact hx x hm
  · simp at hm; subst hm; exact hf

/-- how readList ends -/
def ListEnd (t : ByteArray) (w : World) (e : Ending) (w' : World) : Prop := Below w.heap.size w w' ∧ ((∃ A k xs, e = .returned (.tuple #[.slice A xs.length k, .nilIface]) ∧ SamOf t xs ∧ xs.length ≤ 8 ∧ (∀ x ∈ xs, x.fit) ∧ OwnSl GSam.vals 2 89 w.heap.size w' (.slice A xs.length k) xs) ∨ (∃ y, e = .returned (.tuple #[.slice none 0 0, y]) ∧ Bad y ∧ NoSam t))

def sliceLen : Value → Nat
  | .slice _ n _ => n
  | _ => 0

/-- what holds where an item begins -/
def ItemF (t : ByteArray) (g : Nat) (w : World) (xs : List GSam) (A : Option Addr) (k : Nat) (w' : World) : Prop := t.size ≠ 0 ∧ xs.length < 8 ∧ OwnSl GSam.vals 2 89 (g + 1) w' (.slice A xs.length k) xs ∧ Below g w w' ∧ g < w'.heap.size ∧ ∃ p x U R, Scan w' g t p x ∧ ErrV x ∧ Parted t p U R ∧ ((x = .nilIface ∧ SoFar t xs U R) ∨ (Bad x ∧ NoSam t))

/-- what holds where the end begins -/
def EndF (t : ByteArray) (g : Nat) (w : World) (xs : List GSam) (A : Option Addr) (k : Nat) (w' : World) : Prop := OwnSl GSam.vals 2 89 (g + 1) w' (.slice A xs.length k) xs ∧ Below g w w' ∧ SamOf t xs ∧ xs.length ≤ 8 ∧ ∀ x ∈ xs, x.fit

def FrameOf (t : ByteArray) (g : Nat) (A : Option Addr) (n k : Nat) (a : Act) : Prop := ∃ u8 u9 u10 u11 u12 u13 u14 u15 u16 u17 u18 u19 u20 u21 u22 u23 u24 u25 u26 u27 u28 u29 u30 u31 u32 u33 u34 u35 u36 u37 u38 u39 u40 u41 : Value, a = { tmps := #[.string t, .func (.func 52) #[] #[], undef, undef, .slice none 0 0, .nilIface, .pointer (some ⟨g, 0, none⟩), .slice A n k, u8, u9, u10, u11, u12, u13, u14, u15, u16, u17, u18, u19, u20, u21, u22, u23, u24, u25, u26, u27, u28, u29, u30, u31, u32, u33, u34, u35, u36, u37, u38, u39, u40, u41], defers := [] }

def JumpF (t : ByteArray) (g : Nat) (w : World) (l : Nat) (a : Act) (w' : World) : Prop := ∃ A k xs, FrameOf t g A xs.length k a ∧ ((l = 1 ∧ Hid (ItemF t g w xs A k w')) ∨ (l = 0 ∧ Hid (EndF t g w xs A k w')))

def lenM (l : Nat) (a : Act) (_ : World) : Nat := if l = 1 then 10 - sliceLen (a.tmps.getD 7 undef) else 0

theorem own_more {w : World} {v : Value} {xs : List GSam} {b c : Nat} (h : OwnSl GSam.vals 2 89 b w v xs) (hc : c ≤ b) : OwnSl GSam.vals 2 89 c w v xs := ⟨h.1, by
  rcases h.2 with h | ⟨g, cap, cur, e, hb, r⟩
  · exact Or.inl h
  · exact Or.inr ⟨g, cap, cur, e, Nat.le_trans hc hb, r⟩⟩

set_option maxRecDepth 100000 in
set_option maxHeartbeats 1000000 in
theorem readList_any (t : ByteArray) (w : World) (ht : t.size ≤ 65536) (hEP : ∀ w', Below w.heap.size w w' → Errs w' ∧ Pow w') : Calls Tryz.prog 119 #[.string t, .func (.func 52) #[] #[]] w (ListEnd t w) := by
  have HEP := Lib.hid hEP; clear hEP
  obtain ⟨g, hg⟩ : ∃ g, g = w.heap.size := ⟨_, rfl⟩
  have HG := Lib.hid hg; clear hg
  go_enter Tryz.func119, Tryz.ntmps119
  go_wp2_with fail
  refine wp_scope_labels (JumpF t g w) lenM ?_ ?_ ?_
  · rintro l a w' ⟨A, k, xs, _, ⟨rfl, _⟩ | ⟨rfl, _⟩⟩
    · rfl
    · rfl
  · intro PASS
    have P1 := PASS 1
    simp only [behind, findLabel, beq_self_eq_true, if_true] at P1
    clear PASS
    go_wp2_with fail
    have hSc := Scan.new w t 115
    have hb1 : Below w.heap.size w (w.alloc (.cells #[.string t, .int .i64 0, .nilIface] 115)) := bal (Below.refl _ _) _
    generalize w.alloc (.cells #[.string t, .int .i64 0, .nilIface] 115) = wr at *
    rw [← HG.out] at hSc hb1 ⊢
    cases he : (((0 : Nat) : Int) == (t.size : Int))
    · refine (atEnd_any g 0 t .nilIface wr hSc (by omega)).mono ?_
      rw [he]
      rintro e w2 ⟨rfl, hb2⟩
      have hz : t.size ≠ 0 := fun h => by rw [h] at he; cases he
      have HZT := Lib.hid hz; clear hz
      have hS2 := hSc.below hb2
      have H := Lib.hid (show ItemF t g w [] none 0 w2 from ⟨HZT.out, by simp, ⟨rfl, Or.inl ⟨rfl, rfl⟩⟩, hb1.trans (hb2.mono (Nat.le_of_lt hSc.lt)), hS2.lt, 0, .nilIface, [], t.data.toList, hS2, ErrV.nil, ⟨rfl, rfl⟩, Or.inl ⟨rfl, rfl, rfl, by simp⟩⟩)
      clear hSc hb1 hb2 hS2 he
      go_wp2_with fail
      go_step3
      rename_i hK
      exact hK _ _ (P1 _ _ ⟨none, 0, [], ⟨_, _, _, _, _, _, _, _, _, _, _, _, _, _, _, _, _, _, _, _, _, _, _, _, _, _, _, _, _, _, _, _, _, _, rfl⟩, Or.inl ⟨rfl, H⟩⟩)
    · refine (atEnd_any g 0 t .nilIface wr hSc (by omega)).mono ?_
      rw [he]
      rintro e w2 ⟨rfl, hb2⟩
      have hz : t.size = 0 := by simp at he; omega
      have H := Lib.hid (show EndF t g w [] none 0 w2 from ⟨⟨rfl, Or.inl ⟨rfl, rfl⟩⟩, hb1.trans (hb2.mono (Nat.le_of_lt hSc.lt)), Or.inl ⟨rfl, hz⟩, by simp, by simp⟩)
      clear hSc hb1 hb2 he
      go_wp2_with fail
      go_step3
      exact ⟨none, 0, [], ⟨_, _, _, _, _, _, _, _, _, _, _, _, _, _, _, _, _, _, _, _, _, _, _, _, _, _, _, _, _, _, _, _, _, _, rfl⟩, Or.inr ⟨rfl, H⟩⟩
  · rintro l a wr ⟨A, k, xs, ⟨u8, u9, u10, u11, u12, u13, u14, u15, u16, u17, u18, u19, u20, u21, u22, u23, u24, u25, u26, u27, u28, u29, u30, u31, u32, u33, u34, u35, u36, u37, u38, u39, u40, u41, rfl⟩, ⟨rfl, H⟩ | ⟨rfl, H⟩⟩
    · simp only [behind, findLabel, beq_self_eq_true, if_true]
      obtain ⟨hzt, h8, hO, hBw, hgs, p, x, U, R, hSc, hXe, hPt, hCase⟩ := H.out
      have HO := Lib.hid hO; have HSc := Lib.hid hSc; have HXe := Lib.hid hXe; have HPt := Lib.hid hPt; have HCase := Lib.hid hCase; have HZT := Lib.hid hzt; clear hzt
      clear H hO hSc hXe hPt hCase
      have hEPg : ∀ w', wr.grownBy w' (some g) → Errs w' ∧ Pow w' := fun w' h => HEP.out w' (by rw [← HG.out]; exact hBw.trans (grown_below h hgs (Nat.le_refl _)))
      have hcall := sample_g g p t x U R wr HSc.out HXe.out HPt.out (by omega) hEPg
      have HCall := Lib.hid hcall; clear hcall hEPg
      go_wp2_with fail
      refine HCall.out.mono ?_
      rintro e w3 ⟨s, p', x', rfl, hS3, hSa, hBa, hle, hg3⟩
      clear HCall
      have hB3 : Below g w w3 := hBw.trans (grown_below hg3 hgs (Nat.le_refl _))
      have hgs3 : g < w3.heap.size := Nat.lt_of_lt_of_le hgs hg3.size
      have HOw := Lib.hid (HO.out.kept hg3 (by rw [ownBlock_blk]; cases hA : blk A with | none => exact Or.inl rfl | some b => exact Or.inr (fun e => by injection e with e; have := (OwnSl.sl HO.out (fun x => rfl)).2.2.1 b hA; omega)))
      have HO4 := Lib.hid (HOw.out.below (bal (Below.refl _ w3) (.cells #[.int .i64 s.t, .int .i64 s.v] 89)))
      have HNw := Lib.hid (new_sam w3 s 89)
      have hOut : (x' = .nilIface ∧ x = .nilIface ∧ Sampled t R p s p' x') ∨ (Bad x' ∧ NoSam t) := by
        rcases HCase.out with ⟨e, hsf⟩ | ⟨b, hn⟩
        · rcases hSa e with ⟨e', r⟩ | ⟨b, hn⟩
          · exact Or.inl ⟨e', e, hSa e⟩
          · refine Or.inr ⟨b, fun ys hy => ?_⟩
            obtain ⟨z, zs, R', _, z1, z2, z3, z4, _⟩ := next_of hsf HZT.out hy
            exact hn z R' z1 z2 z4 z3
        · exact Or.inr ⟨hBa b, hn⟩
      have HS3 := Lib.hid hS3; clear hS3 hSa hBa HO HOw HSc HXe hBw hgs hg3
      have sz3 : g + 1 ≤ w3.heap.size := hgs3
      rcases hOut with ⟨rfl, rfl, hSa⟩ | ⟨⟨sx, nx, rfl⟩, hno⟩
      · have hsf : SoFar t xs U R := by
          rcases HCase.out with ⟨_, h⟩ | ⟨b, _⟩
          · exact h
          · exact absurd b bad_nil
        have hsm : s.fit ∧ ∃ R', R = samL s ++ R' ∧ p' = p + (samL s).length ∧ ∀ b r, R' = b :: r → ¬ numC b := by
          rcases hSa with ⟨_, h⟩ | ⟨b, _⟩
          · exact h
          · exact absurd b bad_nil
        obtain ⟨hfs, R', hR', hp', hst⟩ := hsm
        have HSF := Lib.hid hsf; have HR' := Lib.hid hR'; have HST := Lib.hid hst; have HFS := Lib.hid hfs
        have HP' := Lib.hid (show Parted t p' (U ++ samL s) R' from by have := HPt.out; rw [hR'] at this; rw [hp']; exact this.on)
        clear hsf hR' hst hfs hSa HCase HPt hp'
        go_wp2_with (at_builtin; refine wpList_append_sl GSam.vals 2 16 (fun _ => rfl) sam_one 23 89 _ infoSam' rfl (by omega) Tryz.underlying23 rfl _ _ rfl (g + 1) xs [s] (.slice A xs.length k) rfl HO4.out (some ⟨w3.heap.size, 0, none⟩) 1 (w3.heap.size + 1) rfl HNw.out (by simp [maxLen]; omega) (by simp; omega) (by simp; omega) ?_; intro v' w5 hO5 hg5 _; obtain ⟨ys, hys⟩ : ∃ ys, ys = xs ++ [s] := ⟨_, rfl⟩; rw [← hys] at hO5; have HYS := Lib.hid hys; clear hys; obtain ⟨A5, c5, rfl⟩ := hO5.form; have HO5 := Lib.hid hO5; clear hO5; have hb5 : Below (g + 1) w3 w5 := ((bal (Below.refl _ w3) (.cells #[.int .i64 s.t, .int .i64 s.v] 89)).mono (by omega)).trans (below_of_grown hg5 (by simp; omega) (fun g e => (World.ownsRow.lt HO4.out g e).1)); have hS5 : Scan w5 g t p' .nilIface := ⟨(hb5.cell (p := ⟨g, 0, none⟩) (by simp)).trans HS3.out.c0, (hb5.cell (p := ⟨g, 1, none⟩) (by simp)).trans HS3.out.c1, (hb5.cell (p := ⟨g, 2, none⟩) (by simp)).trans HS3.out.c2, fun i => (hb5.frozen (p := ⟨g, i, none⟩) (by simp)).trans (HS3.out.fz i), Nat.lt_of_lt_of_le HS3.out.lt hb5.size⟩; have q2 := hS5.c2; have HS5 := Lib.hid hS5; clear hS5; have Hb5 := Lib.hid hb5; clear hb5 hg5)
        have hB5 : Below g w w5 := hB3.trans (Hb5.out.mono (by omega))
        have hyl : ys.length ≤ 8 := by rw [HYS.out]; simp; omega
        cases he : ((p' : Int) == (t.size : Int))
        · refine (atEnd_any g p' t .nilIface w5 HS5.out (by omega)).mono ?_
          rw [he]
          rintro e w6 ⟨rfl, hb6⟩
          have hR0 : R' ≠ [] := fun h => by
            have := HP'.out.size
            rw [h] at this
            simp at this he
            omega
          have HR0 := Lib.hid hR0; clear hR0
          have HS6 := Lib.hid (HS5.out.below hb6)
          have HO6 := Lib.hid (HO5.out.below hb6)
          have hB6 : Below g w w6 := hB5.trans (hb6.mono (Nat.le_of_lt HS5.out.lt))
          have HNX := Lib.hid (show ∀ zs, SamRead t zs → ys.length < zs.length from fun zs hz => by
            obtain ⟨z, n, R2, hl, z1, z2, z3, z4, z5⟩ := next_of HSF.out HZT.out hz
            have e1 := samL_one (HR'.out.symm.trans z3) HST.out z4
            have n0 : n ≠ 0 := fun h => HR0.out (by rw [e1]; exact z5.1 h)
            rw [HYS.out]
            simp
            omega)
          clear HS5 HO5 hb6 he Hb5 hB5
          cases h8' : ((ys.length : Int) == 8)
          · have hy7 : ys.length < 8 := by simp at h8'; omega
            go_wp2_with fail
            refine (mark_g g p' t ⟨#[32]⟩ .nilIface (U ++ samL s) R' w6 HS6.out ErrV.nil HP'.out (by omega) (by decide)).mono ?_
            rintro e w7 ⟨rfl, p7, x7, hS7, hM7, hg7⟩
            have hgs6 := HS6.out.lt
            have hB7 : Below g w w7 := hB6.trans (grown_below hg7 hgs6 (Nat.le_refl _))
            have hO7 := HO6.out.kept hg7 (by rw [ownBlock_blk]; cases hA : blk A5 with | none => exact Or.inl rfl | some b => exact Or.inr (fun e => by injection e with e; have := (OwnSl.sl HO6.out (fun x => rfl)).2.2.1 b hA; omega))
            have H7 : Hid (ItemF t g w ys A5 c5 w7) := Lib.hid (by
              refine ⟨HZT.out, hy7, hO7, hB7, hS7.lt, p7, x7, ?_⟩
              rcases hM7 with ⟨e1, e2, R2, e3⟩ | ⟨b, e2, hn⟩
              · have e3' : R' = [32] ++ R2 := e3
                have hP7 : Parted t p7 (U ++ samL s ++ [32]) R2 := by have := HP'.out; rw [e3'] at this; rw [e2]; exact this.on
                exact ⟨_, _, hS7, by rw [e1]; exact ErrV.nil, hP7, Or.inl ⟨e1, by rw [HYS.out]; exact soFar_next HSF.out (by rw [HR'.out, e3']; rfl) HFS.out⟩⟩
              · refine ⟨U ++ samL s, R', hS7, Or.inr b, by rw [e2]; exact HP'.out, Or.inr ⟨b, fun zs hz => ?_⟩⟩
                obtain ⟨z, n, R2, hl, z1, z2, z3, z4, z5⟩ := next_blank HSF.out HZT.out hz
                have e1 := samL_one (HR'.out.symm.trans z3) HST.out z4
                rcases z5 with h | ⟨r, h⟩
                · exact HR0.out (by rw [e1, h])
                · exact hn r (by rw [e1, h]; rfl))
            clear hS7 hM7 hg7 hO7 HS6 HO6 hB6 HNX hB7
            go_wp2_with fail
            go_step3
            refine ⟨⟨A5, c5, ys, ⟨_, _, _, _, _, _, _, _, _, _, _, _, _, _, _, _, _, _, _, _, _, _, _, _, _, _, _, _, _, _, _, _, _, _, rfl⟩, Or.inl ⟨rfl, H7⟩⟩, ?_⟩
            simp [lenM, sliceLen, HYS.out]
            omega
          · have HN := Lib.hid (show NoSam t from fun zs hz => by have := HNX.out zs hz; have := hz.2.1; simp at h8'; omega)
            have q1 := HS6.out.c1
            have bE : Below w.heap.size w w6 := by rw [← HG.out]; exact hB6
            clear HNX
            go_wp2_with fail
            go_quiet (fail)
            go_wp2
            exact bodyPost_ret (v := .tuple #[.slice none 0 0, .iface 185 (.agg #[.string ⟨#[101, 110, 100]⟩, .int .i64 p'])]) (by simp [results, Tryz.results119, go_sem]) rfl ⟨bdrewN bE _, Or.inr ⟨_, rfl, ⟨_, _, rfl⟩, HN.out⟩⟩
        · refine (atEnd_any g p' t .nilIface w5 HS5.out (by omega)).mono ?_
          rw [he]
          rintro e w6 ⟨rfl, hb6⟩
          have hR0 : R' = [] := by
            have := HP'.out.size
            apply List.length_eq_zero_iff.1
            simp at he
            omega
          have hend := soFar_end HSF.out (by rw [HR'.out, hR0]; simp) HFS.out
          rw [← HYS.out] at hend
          have H6 : Hid (EndF t g w ys A5 c5 w6) := Lib.hid ⟨HO5.out.below hb6, hB5.trans (hb6.mono (Nat.le_of_lt HS5.out.lt)), hend.1, hyl, hend.2⟩
          clear hend hR0 HS5 HO5 hb6 he Hb5 hB5
          go_wp2_with fail
          go_step3
          refine ⟨⟨A5, c5, ys, ⟨_, _, _, _, _, _, _, _, _, _, _, _, _, _, _, _, _, _, _, _, _, _, _, _, _, _, _, _, _, _, _, _, _, _, rfl⟩, Or.inr ⟨rfl, H6⟩⟩, ?_⟩
          simp [lenM, sliceLen]
          omega
      · have HN := Lib.hid hno; clear hno HCase HPt
        go_wp2_with (at_builtin; refine wpList_append_sl GSam.vals 2 16 (fun _ => rfl) sam_one 23 89 _ infoSam' rfl (by omega) Tryz.underlying23 rfl _ _ rfl (g + 1) xs [s] (.slice A xs.length k) rfl HO4.out (some ⟨w3.heap.size, 0, none⟩) 1 (w3.heap.size + 1) rfl HNw.out (by simp [maxLen]; omega) (by simp; omega) (by simp; omega) ?_; intro v' w5 hO5 hg5 _; obtain ⟨A5, c5, rfl⟩ := hO5.form; have hb5 : Below (g + 1) w3 w5 := ((bal (Below.refl _ w3) (.cells #[.int .i64 s.t, .int .i64 s.v] 89)).mono (by omega)).trans (below_of_grown hg5 (by simp; omega) (fun g e => (World.ownsRow.lt HO4.out g e).1)); have q2 : w5.cell? ⟨g, 2, none⟩ = _ := (hb5.cell (p := ⟨g, 2, none⟩) (by simp)).trans HS3.out.c2; have Hb5 := Lib.hid hb5; clear hb5 hg5 hO5)
        have bE : Below w.heap.size w w5 := by rw [← HG.out]; exact hB3.trans (Hb5.out.mono (by omega))
        go_quiet (fail)
        go_wp2
        exact bodyPost_ret (v := .tuple #[.slice none 0 0, .iface 185 (.agg #[.string sx, .int .i64 nx])]) (by simp [results, Tryz.results119, go_sem]) rfl ⟨bdrewN bE _, Or.inr ⟨_, rfl, ⟨_, _, rfl⟩, HN.out⟩⟩
    · simp only [behind, findLabel, beq_self_eq_true, if_true]
      obtain ⟨hO, hB, hof, h8, hf⟩ := H.out
      have HO := Lib.hid (own_more (c := g) hO (by omega)); clear hO H
      have HOF := Lib.hid hof; have HF := Lib.hid hf; clear hof hf
      go_wp2
      refine bodyPost_ret (v := .tuple #[.slice A xs.length k, .nilIface]) (by simp [results, Tryz.results119, go_sem]) rfl ⟨by rw [← HG.out]; exact hB, Or.inl ⟨A, k, xs, rfl, HOF.out, h8, HF.out, by rw [← HG.out]; exact HO.out⟩⟩

end Go.Proofs.YtjmfffmjfbpgjaaGreatDoor
