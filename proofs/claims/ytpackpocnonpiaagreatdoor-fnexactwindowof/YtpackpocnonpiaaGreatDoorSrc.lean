/-
  The model's source of choices: what it draws lies in its bounds, whatever the code; only its own block turns. Conditions: it has not been asked too often.
-/
import Derived.Test.YtpackpocnonpiaaGreatDoorBytes
import Derived.Test.YtpackpocnonpiaaGreatDoorMem
import Derived.Deep.QuietTactic
import Derived.BigQuiet
import Derived.StillTailTactics
import Derived.Outline
namespace Go.Proofs.YtpackpocnonpiaaGreatDoor
open Go.ChangeShapes Go.WideShapes Go.ChangeAt Go.RowKit
set_option linter.unusedVariables false

/-- a byte's cell -/
def byteV (x : Int) : List Value := [.int .u8 x]

/-- a slice of bytes -/
def BytesAt (w : World) (B : Nat) (A : Option Addr) (bs : List Int) : Prop := Sl byteV 1 w B A bs

theorem BytesAt.byte {w : World} {B : Nat} {A : Option Addr} {bs : List Int} (h : BytesAt w B A bs) {k : Nat} (hk : k < bs.length) :
    ∃ b off, A = some ⟨b, off, none⟩ ∧ b < B ∧ w.cell? ⟨b, off + k, none⟩ = some (.int .u8 bs[k]) := by
  obtain ⟨b, off, e, hb, hc⟩ := Sl.at_ h hk
  refine ⟨b, off, e, hb, ?_⟩
  have := hc 0 _ rfl
  simpa using this

/-- what lies below a block stays when that block alone turns -/
theorem Sl.under {α : Type} {f : α → List Value} {m : Nat} {w w' : World} {b : Nat} {A : Option Addr} {xs : List α} (h : Sl f m w b A xs) (hg : w.grownBy w' (some b)) (hb : b ≤ w.heap.size) : Sl f m w' b A xs := by
  intro hn
  obtain ⟨b', off, rfl, hlt, hc⟩ := h hn
  exact ⟨b', off, rfl, hlt, fun k hk j v hv => (World.cell?_of_block (a := ⟨b', off + k * m + j, none⟩) (hg.block b' (by omega) (fun e => by injection e; omega))).trans (hc k hk j v hv)⟩

/-- the source lies in block b, its code below it: asked k times, its seed -/
def SrcS (w : World) (b : Nat) (bs : List Int) (k : Nat) (seed : Int) : Prop := ∃ (A : Option Addr) (c : Nat),
  (w.cell? ⟨b, 0, none⟩ = some (.slice A bs.length c) ∧ w.cell? ⟨b, 1, none⟩ = some (.int .i64 (k : Int)) ∧ w.cell? ⟨b, 2, none⟩ = some (.int .i64 seed)) ∧ Free w (some ⟨b, 0, none⟩) ∧
  BytesAt w b A bs ∧ (∀ x ∈ bs, 0 ≤ x ∧ x ≤ 255) ∧ 0 ≤ seed ∧ seed < 2147483648 ∧ bs.length ≤ 1048576 ∧ b < w.heap.size

/-- the source lies in block b, asked at most q times -/
def Src (w : World) (b q : Nat) : Prop := ∃ (bs : List Int) (k : Nat) (seed : Int), SrcS w b bs k seed ∧ k ≤ q

/-- what it draws next, and its seed then -/
def byteStep (bs : List Int) (k : Nat) (seed : Int) : Int × Int :=
  if h : k < bs.length then (bs[k], (seed * 31 + bs[k] + 7) % 2147483648)
  else if 3000 < k + 1 then (0, seed)
  else ((seed * 1103515245 + 12345) % 2147483648 / 65536 % 256, (seed * 1103515245 + 12345) % 2147483648)

theorem SrcS.keep {w w' : World} {b k : Nat} {bs : List Int} {seed : Int} (h : SrcS w b bs k seed) (hb : Below (b + 1) w w') : SrcS w' b bs k seed := by
  obtain ⟨A, c, ⟨c0, c1, c2⟩, hf, hB, hx, h0, h1, hl, hlt⟩ := h
  exact ⟨A, c, ⟨(hb.cell (p := ⟨b, 0, none⟩) (by simp)).trans c0, (hb.cell (p := ⟨b, 1, none⟩) (by simp)).trans c1, (hb.cell (p := ⟨b, 2, none⟩) (by simp)).trans c2⟩, hf.below hb (fun b e => by simp [blk] at e; omega), Sl.below hB hb (by omega), hx, h0, h1, hl, Nat.lt_of_lt_of_le hlt hb.size⟩

theorem SrcS.lt {w : World} {b k : Nat} {bs : List Int} {seed : Int} (h : SrcS w b bs k seed) : b < w.heap.size := by
  obtain ⟨A, c, _, _, _, _, _, _, _, hlt⟩ := h
  exact hlt

theorem SrcS.ok {w : World} {b k : Nat} {bs : List Int} {seed : Int} (h : SrcS w b bs k seed) : 0 ≤ (byteStep bs k seed).1 ∧ (byteStep bs k seed).1 ≤ 255 := by
  obtain ⟨A, c, _, _, _, hx, _⟩ := h
  unfold byteStep
  split
  · rename_i hk; exact hx bs[k] (List.getElem_mem hk)
  · split
    · exact ⟨by simp, by simp⟩
    · exact ⟨by dsimp only; omega, by dsimp only; omega⟩

theorem Src.keep {w w' : World} {b q : Nat} (h : Src w b q) (hb : Below (b + 1) w w') : Src w' b q := by
  obtain ⟨bs, k, seed, hs, hk⟩ := h
  exact ⟨bs, k, seed, hs.keep hb, hk⟩

theorem Src.lt {w : World} {b q : Nat} (h : Src w b q) : b < w.heap.size := by
  obtain ⟨bs, k, seed, hs, hk⟩ := h
  exact hs.lt

theorem Src.more {w : World} {b q q' : Nat} (h : Src w b q) (hq : q ≤ q') : Src w b q' := by
  obtain ⟨bs, k, seed, hs, hk⟩ := h
  exact ⟨bs, k, seed, hs, by omega⟩

theorem srcSource_s (A : Option Addr) (bs : List Int) (c : Nat) (w : World) (h : BytesAt w w.heap.size A bs) (hx : ∀ x ∈ bs, 0 ≤ x ∧ x ≤ 255) (hl : bs.length ≤ 1048576) :
    Calls Tryz.prog 71 #[.slice A bs.length c] w fun e w' => e = .returned (.pointer (some ⟨w.heap.size, 0, none⟩)) ∧ SrcS w' w.heap.size bs 0 ((bs.length : Int) % 1000) ∧ Below w.heap.size w w' := by
  have H := Lib.hid h; clear h
  have Hx := Lib.hid hx; clear hx
  go_enter Tryz.func71, Tryz.ntmps71
  go_wp2
  go_ret
  refine ⟨rfl, ?_, bal (Below.refl _ _) _⟩
  exact ⟨A, c, ⟨by simp, by simp, by simp⟩, free_alloc _ _ _ _, Sl.below H.out (bal (Below.refl _ _) _) (Nat.le_refl _), Hx.out, by omega, by omega, hl, by simp⟩

set_option maxRecDepth 100000 in
theorem srcByte_s (b : Nat) (bs : List Int) (k : Nat) (seed : Int) (w : World) (h : SrcS w b bs k seed) (hq : k ≤ 1000000000000) :
    Calls Tryz.prog 173 #[.pointer (some ⟨b, 0, none⟩)] w fun e w' => ∃ r s : Int, e = .returned (.int .i64 r) ∧ (r, s) = byteStep bs k seed ∧ SrcS w' b bs (k + 1) s ∧ w.grownBy w' (some b) := by
  obtain ⟨A, c, ⟨c0, c1, c2⟩, hf, hB, hx, h0, h1, hl, hlt⟩ := h
  have y0 : w.frozen? ⟨b, 0, none⟩ = false := hf _ rfl 0
  have y1 : w.frozen? ⟨b, 1, none⟩ = false := hf _ rfl 1
  have y2 : w.frozen? ⟨b, 2, none⟩ = false := hf _ rfl 2
  have Hf := Lib.hid hf; clear hf
  have HB := Lib.hid hB; clear hB
  have Hx := Lib.hid hx; clear hx
  by_cases hin : k < bs.length
  · have d1 : decide ((k : Int) + 1 ≤ (bs.length : Int)) = true := by simp; omega
    obtain ⟨b1, o1, rfl, hb1, p0⟩ := HB.out.byte hin
    have hxk := Hx.out bs[k] (List.getElem_mem hin)
    go_enter Tryz.func173, Tryz.ntmps173
    go_wp2_with fail
    go_quiet (fail)
    go_wp2_with fail
    obtain ⟨W, hW⟩ : ∃ W, W = (w.setCell ⟨b, 1, none⟩ (.int .i64 ((k : Int) + 1))).drewN nq := ⟨_, rfl⟩
    have e0 : W.cell? ⟨b, 0, none⟩ = some (.slice (some ⟨b1, o1, none⟩) bs.length c) := by rw [hW]; exact (cset_ne w b 1 0 _ (by omega)).trans c0
    have e1 : W.cell? ⟨b, 1, none⟩ = some (.int .i64 ((k : Int) + 1)) := by rw [hW]; exact cset_eq w b 1 _ c1
    have e2 : W.cell? ⟨b, 2, none⟩ = some (.int .i64 seed) := by rw [hW]; exact (cset_ne w b 1 2 _ (by omega)).trans c2
    have e3 : W.cell? ⟨b1, o1 + k, none⟩ = some (.int .u8 bs[k]) := by rw [hW]; exact (World.cell?_setCell_other w ⟨b, 1, none⟩ ⟨b1, o1 + k, none⟩ _ (fun e => by injection e; omega)).trans p0
    have z2 : W.frozen? ⟨b, 2, none⟩ = false := by rw [hW]; exact (frozen_setCell w _ _ _).trans y2
    rw [← hW]
    have HW := Lib.hid hW; clear hW c0 c1 c2 p0 y0 y1 y2
    have i1 : (0 : Int) ≤ (k : Int) := by omega
    have i2 : (k : Int) < (bs.length : Int) := by omega
    have wk : IntKind.i64.wrap (k : Int) = (k : Int) := by rw [IntKind.wrap_i64]; omega
    go_still_tail 23, (by kernel_rfl)
    change wpList _ _ _ _ _ W.drew
    obtain ⟨V, hV⟩ : ∃ V, V = W.drew := ⟨_, rfl⟩
    rw [← hV]
    have f0 : V.cell? ⟨b, 0, none⟩ = some (.slice (some ⟨b1, o1, none⟩) bs.length c) := by rw [hV]; exact e0
    have f1 : V.cell? ⟨b, 1, none⟩ = some (.int .i64 ((k : Int) + 1)) := by rw [hV]; exact e1
    have f2 : V.cell? ⟨b, 2, none⟩ = some (.int .i64 seed) := by rw [hV]; exact e2
    have f3 : V.cell? ⟨b1, o1 + k, none⟩ = some (.int .u8 bs[k]) := by rw [hV]; exact e3
    have x2 : V.frozen? ⟨b, 2, none⟩ = false := by rw [hV]; exact z2
    have HV := Lib.hid hV; clear hV e0 e1 e2 e3 z2
    go_wp2_with fail
    obtain ⟨S, hS⟩ : ∃ S, S = (seed * 31 + bs[k] + 7) % 2147483648 := ⟨_, rfl⟩
    rw [← hS]
    obtain ⟨U, hU⟩ : ∃ U, U = V.setCell ⟨b, 2, none⟩ (.int .i64 S) := ⟨_, rfl⟩
    rw [← hU]
    have g0 : U.cell? ⟨b, 0, none⟩ = some (.slice (some ⟨b1, o1, none⟩) bs.length c) := by rw [hU]; exact (cset_ne V b 2 0 _ (by omega)).trans f0
    have g1 : U.cell? ⟨b, 1, none⟩ = some (.int .i64 ((k : Int) + 1)) := by rw [hU]; exact (cset_ne V b 2 1 _ (by omega)).trans f1
    have g2 : U.cell? ⟨b, 2, none⟩ = some (.int .i64 S) := by rw [hU]; exact cset_eq V b 2 _ f2
    have g3 : U.cell? ⟨b1, o1 + k, none⟩ = some (.int .u8 bs[k]) := by rw [hU]; exact (World.cell?_setCell_other V ⟨b, 2, none⟩ ⟨b1, o1 + k, none⟩ _ (fun e => by injection e; omega)).trans f3
    have hS1 : 0 ≤ S ∧ S < 2147483648 := by rw [hS]; omega
    have HBS := Lib.hid (show (bs[k], S) = byteStep bs k seed by rw [hS]; unfold byteStep; rw [dif_pos hin])
    have hg : w.grownBy U (some b) := by
      rw [hU, HV.out, HW.out]
      have a1 : w.grownBy (w.setCell ⟨b, 1, none⟩ (.int .i64 ((k : Int) + 1))) (some b) := grown_setCell (grown_of_below (Below.refl _ w) _) _ (Or.inl rfl) _
      have a2 : w.grownBy ((w.setCell ⟨b, 1, none⟩ (.int .i64 ((k : Int) + 1))).drewN nq).drew (some b) := ⟨a1.os, a1.tape, a1.output, a1.size, a1.block⟩
      exact grown_setCell a2 _ (Or.inl rfl) _
    have hfu : Free U (some ⟨b, 0, none⟩) := by
      rw [hU, HV.out, HW.out]
      have a1 : Free ((w.setCell ⟨b, 1, none⟩ (.int .i64 ((k : Int) + 1))).drewN nq).drew (some ⟨b, 0, none⟩) := Hf.out.setCell _ _
      exact a1.setCell _ _
    have Hg := Lib.hid (And.intro hg hfu); clear hg hfu hU
    have HS := Lib.hid hS1; clear hS1 hS f0 f1 f2 f3 x2 HV HW
    go_quiet (fail)
    go_wp2
    go_ret
    refine ⟨_, S, rfl, HBS.out, ?_, ?_⟩
    · refine ⟨some ⟨b1, o1, none⟩, c, ⟨g0, by simpa using g1, g2⟩, Hg.out.2, ?_, Hx.out, HS.out.1, HS.out.2, hl, Nat.lt_of_lt_of_le hlt Hg.out.1.size⟩
      exact Sl.under HB.out ⟨Hg.out.1.os, Hg.out.1.tape, Hg.out.1.output, Hg.out.1.size, Hg.out.1.block⟩ (by omega)
    · exact ⟨Hg.out.1.os, Hg.out.1.tape, Hg.out.1.output, Hg.out.1.size, Hg.out.1.block⟩
  · have d1 : decide ((k : Int) + 1 ≤ (bs.length : Int)) = false := by simp; omega
    by_cases hfar : 3000 < k + 1
    · have d2 : decide (3000 < (k : Int) + 1) = true := by simp; omega
      go_enter Tryz.func173, Tryz.ntmps173
      go_wp2_with fail
      go_quiet (fail)
      go_wp2
      go_ret
      have a1 : w.grownBy (w.setCell ⟨b, 1, none⟩ (.int .i64 ((k : Int) + 1))) (some b) := grown_setCell (grown_of_below (Below.refl _ w) _) _ (Or.inl rfl) _
      refine ⟨0, seed, rfl, by unfold byteStep; rw [dif_neg hin, if_pos hfar], ?_, ⟨a1.os, a1.tape, a1.output, a1.size, a1.block⟩⟩
      refine ⟨A, c, ⟨(cset_ne w b 1 0 _ (by omega)).trans c0, ?_, (cset_ne w b 1 2 _ (by omega)).trans c2⟩, Hf.out.setCell _ _, ?_, Hx.out, h0, h1, hl, Nat.lt_of_lt_of_le hlt a1.size⟩
      · have := cset_eq w b 1 (.int .i64 ((k : Int) + 1)) c1
        simpa using this
      · exact Sl.under HB.out ⟨a1.os, a1.tape, a1.output, a1.size, a1.block⟩ (by omega)
    · have d2 : decide (3000 < (k : Int) + 1) = false := by simp; omega
      go_enter Tryz.func173, Tryz.ntmps173
      go_wp2_with fail
      go_quiet (fail)
      go_wp2
      go_ret
      have a1 : w.grownBy (w.setCell ⟨b, 1, none⟩ (.int .i64 ((k : Int) + 1))) (some b) := grown_setCell (grown_of_below (Below.refl _ w) _) _ (Or.inl rfl) _
      have a2 : w.grownBy ((w.setCell ⟨b, 1, none⟩ (.int .i64 ((k : Int) + 1))).drewN nq) (some b) := ⟨a1.os, a1.tape, a1.output, a1.size, a1.block⟩
      have u0 : ((w.setCell ⟨b, 1, none⟩ (.int .i64 ((k : Int) + 1))).drewN nq).cell? ⟨b, 0, none⟩ = some (.slice A bs.length c) := (cset_ne w b 1 0 _ (by omega)).trans c0
      have u1 : ((w.setCell ⟨b, 1, none⟩ (.int .i64 ((k : Int) + 1))).drewN nq).cell? ⟨b, 1, none⟩ = some (.int .i64 ((k : Int) + 1)) := cset_eq w b 1 _ c1
      have u2 : ((w.setCell ⟨b, 1, none⟩ (.int .i64 ((k : Int) + 1))).drewN nq).cell? ⟨b, 2, none⟩ = some (.int .i64 seed) := (cset_ne w b 1 2 _ (by omega)).trans c2
      have uf : Free ((w.setCell ⟨b, 1, none⟩ (.int .i64 ((k : Int) + 1))).drewN nq) (some ⟨b, 0, none⟩) := Hf.out.setCell _ _
      generalize (w.setCell ⟨b, 1, none⟩ (.int .i64 ((k : Int) + 1))).drewN nq = X at *
      have a3 : w.grownBy (X.setCell ⟨b, 2, none⟩ (.int .i64 ((seed * 1103515245 + 12345) % 2147483648))) (some b) := grown_setCell a2 _ (Or.inl rfl) _
      refine ⟨_, _, rfl, by unfold byteStep; rw [dif_neg hin, if_neg hfar], ?_, a3⟩
      refine ⟨A, c, ⟨(cset_ne X b 2 0 _ (by omega)).trans u0, ?_, cset_eq X b 2 _ u2⟩, uf.setCell _ _, Sl.under HB.out a3 (by omega), Hx.out, by omega, by omega, hl, Nat.lt_of_lt_of_le hlt a3.size⟩
      have := (cset_ne X b 2 1 (.int .i64 ((seed * 1103515245 + 12345) % 2147483648)) (by omega)).trans u1
      simpa using this

theorem srcByte_any (b q : Nat) (w : World) (h : Src w b q) (hq : q ≤ 1000000000000) :
    Calls Tryz.prog 173 #[.pointer (some ⟨b, 0, none⟩)] w fun e w' => ∃ r : Int, e = .returned (.int .i64 r) ∧ 0 ≤ r ∧ r ≤ 255 ∧ Src w' b (q + 1) ∧ w.grownBy w' (some b) := by
  obtain ⟨bs, k, seed, hs, hk⟩ := h
  have ho := hs.ok
  refine (srcByte_s b bs k seed w hs (by omega)).mono ?_
  rintro e w' ⟨r, s, rfl, hr, hs', hg⟩
  rw [← hr] at ho
  exact ⟨r, rfl, ho.1, ho.2, ⟨bs, k + 1, s, hs', by omega⟩, hg⟩

theorem srcSource_any (A : Option Addr) (bs : List Int) (c : Nat) (w : World) (h : BytesAt w w.heap.size A bs) (hx : ∀ x ∈ bs, 0 ≤ x ∧ x ≤ 255) (hl : bs.length ≤ 1048576) :
    Calls Tryz.prog 71 #[.slice A bs.length c] w fun e w' => e = .returned (.pointer (some ⟨w.heap.size, 0, none⟩)) ∧ Src w' w.heap.size 0 ∧ Below w.heap.size w w' :=
  (srcSource_s A bs c w h hx hl).mono fun e w' ⟨he, hs, hb⟩ => ⟨he, ⟨bs, 0, _, hs, Nat.le_refl _⟩, hb⟩

/-- what a call of the source's says: a number in its bounds; the source goes on; its block alone turns -/
def Drawn (n : Int) (b q : Nat) (w : World) (e : Ending) (w' : World) : Prop := ∃ r : Int, e = .returned (.int .i64 r) ∧ 0 ≤ r ∧ r < n ∧ Src w' b q ∧ w.grownBy w' (some b)

theorem srcNext_any (n : Int) (b q : Nat) (w : World) (h : Src w b q) (hq : q ≤ 100000000000) (hn : 1 ≤ n) (hn2 : n ≤ 256) :
    Calls Tryz.prog 117 #[.pointer (some ⟨b, 0, none⟩), .int .i64 n] w (Drawn n b (q + 1) w) := by
  have H := Lib.hid h; clear h
  by_cases h1 : n ≤ 1
  · have d1 : decide (n ≤ 1) = true := by simpa using h1
    go_enter Tryz.func117, Tryz.ntmps117
    go_wp2
    go_ret
    exact ⟨0, rfl, by omega, by omega, H.out.more (by omega), grown_of_below (Below.refl _ w) _⟩
  · have d1 : decide (n ≤ 1) = false := by simpa using h1
    have d2 : decide (n ≤ 256) = true := by simpa using hn2
    have d3 : (n == 0) = false := by simp; omega
    go_enter Tryz.func117, Tryz.ntmps117
    go_wp2_with fail
    refine (srcByte_any b q w H.out (by omega)).mono ?_
    rintro e w1 ⟨r, rfl, hr0, hr1, hs, hg⟩
    have Hs := Lib.hid hs; clear hs
    have Hg := Lib.hid hg; clear hg
    go_wp2
    go_ret
    exact ⟨r % n, rfl, Int.emod_nonneg _ (by omega), Int.emod_lt_of_pos _ (by omega), Hs.out, Hg.out⟩

/-- one of 0 to n - 1 (n at most 256), told by the source's state -/
theorem srcNext_s (n : Int) (b : Nat) (bs : List Int) (k : Nat) (seed : Int) (w : World) (h : SrcS w b bs k seed) (hq : k ≤ 100000000000) (hn : 2 ≤ n) (hn2 : n ≤ 256) :
    Calls Tryz.prog 117 #[.pointer (some ⟨b, 0, none⟩), .int .i64 n] w fun e w' => ∃ r s : Int, e = .returned (.int .i64 (r % n)) ∧ (r, s) = byteStep bs k seed ∧ SrcS w' b bs (k + 1) s ∧ w.grownBy w' (some b) := by
  have ho := h.ok
  have H := Lib.hid h; clear h
  have Ho := Lib.hid ho; clear ho
  have d1 : decide (n ≤ 1) = false := by simp; omega
  have d2 : decide (n ≤ 256) = true := by simpa using hn2
  have d3 : (n == 0) = false := by simp; omega
  go_enter Tryz.func117, Tryz.ntmps117
  go_wp2_with fail
  refine (srcByte_s b bs k seed w H.out (by omega)).mono ?_
  rintro e w1 ⟨r, s, rfl, hr, hs, hg⟩
  have hr0 : 0 ≤ r := by have := Ho.out; rw [← hr] at this; exact this.1
  have hr1 : r ≤ 255 := by have := Ho.out; rw [← hr] at this; exact this.2
  have Hr := Lib.hid hr; clear hr
  have Hs := Lib.hid hs; clear hs
  have Hg := Lib.hid hg; clear hg
  go_wp2
  go_ret
  exact ⟨r, s, rfl, Hr.out, Hs.out, Hg.out⟩

end Go.Proofs.YtpackpocnonpiaaGreatDoor
