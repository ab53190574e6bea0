/-
  The model's drawn samples: their times rise from a time on, their values are values; they lie in new memory. Conditions: the source has not been asked too often.
-/
import Derived.Test.YtjmfffmjfbpgjaaGreatDoorSrc
import Derived.Test.YtjmfffmjfbpgjaaGreatDoorAppG
import Derived.Test.YtjmfffmjfbpgjaaGreatDoorSams
namespace Go.Proofs.YtjmfffmjfbpgjaaGreatDoor
open Go.ChangeShapes Go.WideShapes Go.ChangeAt Go.RowKit
set_option linter.unusedVariables false

/-- times that rise from fr on and are below F, values that are some -/
def RiseT (fr F : Int) (xs : List GSam) : Prop := (∀ s ∈ xs, fr ≤ s.t ∧ s.t < F ∧ -1000000 ≤ s.v ∧ s.v ≤ 1000000) ∧ (∀ i (h : i + 1 < xs.length), (xs[i]'(by omega)).t < xs[i + 1].t) ∧ fr ≤ F ∧ F ≤ fr + 4 * xs.length

theorem RiseT.nil (fr : Int) : RiseT fr fr [] := ⟨by simp, by simp, by omega, by simp⟩

theorem RiseT.snoc {fr F d v : Int} {xs : List GSam} (h : RiseT fr F xs) (h0 : 0 ≤ d) (h3 : d ≤ 3) (hv : -1000000 ≤ v ∧ v ≤ 1000000) : RiseT fr (F + d + 1) (xs ++ [⟨F + d, v⟩]) := by
  obtain ⟨a, b, c, e⟩ := h
  refine ⟨?_, ?_, by omega, by simp; omega⟩
  · intro s hs
    rcases List.mem_append.1 hs with hs | hs
    · have := a s hs; omega
    · simp at hs; subst hs; dsimp only; omega
  · intro i hi
    simp only [List.length_append, List.length_cons, List.length_nil] at hi
    by_cases hl : i + 1 < xs.length
    · rw [List.getElem_append_left (by omega), List.getElem_append_left hl]; exact b i hl
    · have e1 : i + 1 = xs.length := by omega
      rw [List.getElem_append_left (by omega), List.getElem_append_right (by omega)]
      have := a xs[i] (List.getElem_mem (by omega))
      simp [e1]
      omega

theorem infoSam' : (Tryz.prog.info? 89).map (fun i => (i.zero, i.size, i.bytes)) = some (some (.agg #[.int .i64 0, .int .i64 0]), 2, 16) := by kernel_rfl

theorem sam_one (s : GSam) : ∀ u ∈ GSam.vals s, u.oneCell' = true := by
  intro u hu
  simp [GSam.vals] at hu
  rcases hu with rfl | rfl <;> rfl

theorem new_sam (w : World) (s : GSam) (e : TypeId) : Sl GSam.vals 2 (w.alloc (.cells #[.int .i64 s.t, .int .i64 s.v] e)) (w.heap.size + 1) (some ⟨w.heap.size, 0, none⟩) [s] := by
  intro _
  refine ⟨w.heap.size, 0, rfl, by omega, fun k hk j v hv => ?_⟩
  obtain rfl : k = 0 := by simpa using hk
  rw [World.cell?_alloc_new]
  match j, hv with
  | 0, hv => simpa [GSam.vals] using hv
  | 1, hv => simpa [GSam.vals] using hv
  | j + 2, hv => simp [GSam.vals] at hv

theorem grown_new {w w4 w5 : World} {row row' : Option Nat} (h : w.grownBy w4 row) (k : w4.grownBy w5 row') (hr : ∀ g, row' = some g → w.heap.size ≤ g) : w.grownBy w5 row :=
  ⟨k.os.trans h.os, k.tape.trans h.tape, k.output.trans h.output, Nat.le_trans h.size k.size, fun i hi hne => (k.block i (Nat.lt_of_lt_of_le hi h.size) (fun e => by have := hr i e.symm; omega)).trans (h.block i hi hne)⟩

/-- what is drawn -/
def DrawnSams (fr n : Int) (b q : Nat) (w : World) (e : Ending) (w' : World) : Prop := ∃ (A : Option Addr) (c : Nat) (xs : List GSam) (F : Int),
  e = .returned (.slice A xs.length c) ∧ OwnSl GSam.vals 2 89 w.heap.size w' (.slice A xs.length c) xs ∧ RiseT fr F xs ∧ (xs.length : Int) ≤ n ∧ Src w' b q ∧ w.grownBy w' (some b)

set_option maxRecDepth 100000 in
set_option maxHeartbeats 1000000 in
theorem srcSamples_any (fr n : Int) (b q : Nat) (w : World) (h : Src w b q) (hb : b < w.heap.size) (hq : q ≤ 1000000000) (hfr : 0 ≤ fr) (hfr2 : fr ≤ 1000000) (hn : 0 ≤ n) (hn2 : n ≤ 100) :
    Calls Tryz.prog 45 #[.pointer (some ⟨b, 0, none⟩), .int .i64 fr, .int .i64 n] w (DrawnSams fr n b (q + 1000) w) := by
  have H := Lib.hid h; clear h
  go_enter Tryz.func45, Tryz.ntmps45
  go_wp2_with fail
  obtain ⟨W, hW⟩ : ∃ W, W = w.alloc (.cells #[] 89) := ⟨_, rfl⟩
  have o0 : OwnSl GSam.vals 2 89 w.heap.size W (.slice (some ⟨w.heap.size, 0, none⟩) 0 0) [] := by rw [hW]; exact own_empty _ _ _ w
  have b0 : Below w.heap.size w W := by rw [hW]; exact bal (Below.refl _ _) _
  rw [← hW]
  clear hW
  have O0 := Lib.hid o0; clear o0
  refine (srcNext_any (n + 1) b q W (H.out.keep (b0.mono (by omega))) (by omega) (by omega) (by omega)).mono ?_
  rintro e w0 ⟨r, rfl, hr0, hr1, hs0, hg0⟩
  obtain ⟨i0, rfl⟩ : ∃ i0 : Nat, r = (i0 : Int) := ⟨r.toNat, by omega⟩
  have HS0 := Lib.hid hs0; clear hs0
  have g0 : w.grownBy w0 (some b) := grown_trans (grown_of_below b0 _) hg0
  have O1 := Lib.hid (O0.out.kept hg0 (Or.inr (by simp [Value.ownBlock]; omega)))
  have HG0 := Lib.hid g0; clear g0 hg0 O0 b0 H
  go_wp2_with fail
  go_loopw [1, 7, 8] (fun f o i wr => ∃ (F : Int) (A : Option Addr) (c : Nat) (xs : List GSam) (j p : Nat), f = .int .i64 F ∧ o = .slice A xs.length c ∧ i = .int .i64 j ∧ xs.length + j ≤ i0 ∧ p + 4 * j ≤ q + 1 + 4 * i0 ∧ Hid (RiseT fr F xs) ∧ Hid (OwnSl GSam.vals 2 89 w.heap.size wr (.slice A xs.length c) xs) ∧ Hid (Src wr b p) ∧ Hid (w.grownBy wr (some b))) (fun _ _ i _ => (intOf i).toNat)
  case atStart => exact ⟨fr, _, 0, [], i0, q + 1, rfl, rfl, rfl, by simp, by omega, Lib.hid (RiseT.nil fr), O1, HS0, HG0⟩
  case round =>
    clear O1 HS0 HG0
    obtain ⟨F, A, c, xs, j, p, rfl, rfl, rfl, hlen, hp, HR, HO, HS, HG⟩ := hrel
    by_cases hlt : 0 < j
    · obtain ⟨j, rfl⟩ : ∃ j', j = j' + 1 := ⟨j - 1, by omega⟩
      have hF : fr ≤ F ∧ F ≤ fr + 4 * xs.length := HR.out.2.2
      go_wp2_with fail
      refine (srcNext_any 4 b p wr HS.out (by omega) (by omega) (by omega)).mono ?_
      rintro e w1 ⟨d, rfl, hd0, hd1, hs1, hg1⟩
      go_wp2_with fail
      refine (srcNext_any 40 b (p + 1) w1 hs1 (by omega) (by omega) (by omega)).mono ?_
      rintro e w2 ⟨v, rfl, hv0, hv1, hs2, hg2⟩
      go_wp2_with fail
      obtain ⟨V, hV⟩ : ∃ V, V = w2.alloc (.cells #[.int .i64 (v - 10), .int .i64 1000000, .int .i64 (-1000000)] 3) := ⟨_, rfl⟩
      have l0 : V.cell? ⟨w2.heap.size, 0, none⟩ = some (.int .i64 (v - 10)) := by rw [hV]; simp
      have l1 : V.cell? ⟨w2.heap.size, 1, none⟩ = some (.int .i64 1000000) := by rw [hV]; simp
      have l2 : V.cell? ⟨w2.heap.size, 2, none⟩ = some (.int .i64 (-1000000)) := by rw [hV]; simp
      have bV : Below w2.heap.size w2 V := by rw [hV]; exact bal (Below.refl _ _) _
      have sV : w2.heap.size < V.heap.size := by rw [hV]; simp
      rw [← hV]
      clear hV
      have hbw : b < w2.heap.size := Nat.lt_of_lt_of_le hb (Nat.le_trans HG.out.size (Nat.le_trans hg1.size hg2.size))
      have gV : wr.grownBy V (some b) := grown_trans (grown_trans hg1 hg2) (grown_of_below bV _)
      have sz2 : wr.heap.size ≤ w2.heap.size := Nat.le_trans hg1.size hg2.size
      have HsV := Lib.hid (hs2.keep (bV.mono (by omega)))
      have GV := Lib.hid gV; clear gV hg1 hg2 hs1 hs2 bV
      generalize w2.heap.size = y at *
      refine (srcNext_any 12 b (p + 1 + 1) V HsV.out (by omega) (by omega) (by omega)).mono ?_
      rintro e w3 ⟨r12, rfl, hx0, hx1, hs3, hg3⟩
      have m0 := (World.cell?_of_block (a := ⟨y, 0, none⟩) (hg3.block y sV (fun e => by injection e; omega))).trans l0
      have m1 := (World.cell?_of_block (a := ⟨y, 1, none⟩) (hg3.block y sV (fun e => by injection e; omega))).trans l1
      have m2 := (World.cell?_of_block (a := ⟨y, 2, none⟩) (hg3.block y sV (fun e => by injection e; omega))).trans l2
      have sV3 := Nat.lt_of_lt_of_le sV hg3.size
      have Hs3 := Lib.hid hs3; clear hs3
      have Hg3 := Lib.hid hg3; clear hg3 l0 l1 l2
      go_wp2_with fail
      refine (srcNext_any 2 b (p + 1 + 1 + 1) w3 Hs3.out (by omega) (by omega) (by omega)).mono ?_
      rintro e w4 ⟨r2, rfl, hz0, hz1, hs4, hg4⟩
      have k0 := (World.cell?_of_block (a := ⟨y, 0, none⟩) (hg4.block y sV3 (fun e => by injection e; omega))).trans m0
      have k1 := (World.cell?_of_block (a := ⟨y, 1, none⟩) (hg4.block y sV3 (fun e => by injection e; omega))).trans m1
      have k2 := (World.cell?_of_block (a := ⟨y, 2, none⟩) (hg4.block y sV3 (fun e => by injection e; omega))).trans m2
      have G4 : wr.grownBy w4 (some b) := grown_trans (grown_trans GV.out Hg3.out) hg4
      have Hs4 := Lib.hid hs4; clear hs4 hg4 Hg3 Hs3 GV HsV m0 m1 m2 sV3 sV
      have HG4 := Lib.hid G4; clear G4
      obtain ⟨ix, u, hix, hixl, hku, hu⟩ : ∃ (ix : Nat) (u : Int), (r12 / 10 * (1 + r2) = (ix : Int)) ∧ ix ≤ 2 ∧ w4.cell? ⟨y, ix, none⟩ = some (.int .i64 u) ∧ (-1000000 ≤ u ∧ u ≤ 1000000) := by
        by_cases c1 : r12 < 10
        · have e1 : r12 / 10 = 0 := by omega
          exact ⟨0, v - 10, by rw [e1]; simp, by omega, k0, by omega⟩
        · have e1 : r12 / 10 = 1 := by omega
          by_cases c2 : r2 = 0
          · exact ⟨1, 1000000, by rw [e1, c2]; simp, by omega, k1, by omega⟩
          · have e2 : r2 = 1 := by omega
            exact ⟨2, -1000000, by rw [e1, e2]; simp, by omega, k2, by omega⟩
      have i1 : (0 : Int) ≤ (ix : Int) := by omega
      have i2 : (ix : Int) < 3 := by omega
      clear k0 k1 k2
      have hne : (Value.slice A xs.length c).ownBlock = none ∨ (Value.slice A xs.length c).ownBlock ≠ some b := by
        rw [ownBlock_blk]
        by_cases hA : blk A = none
        · exact Or.inl hA
        · refine Or.inr (fun e => ?_)
          have := World.ownsRow.lt HO.out b (by rw [ownBlock_blk]; exact e)
          omega
      have hO4 := (HO.out.kept HG4.out hne).below (bal (Below.refl _ w4) (.cells #[.int .i64 (F + d), .int .i64 u] 89))
      have HO4 := Lib.hid hO4; clear hO4
      have HN := Lib.hid (new_sam w4 ⟨F + d, u⟩ 89)
      have sz4 : w.heap.size ≤ w4.heap.size := Nat.le_trans HG.out.size HG4.out.size
      have Hu := Lib.hid hu
      have HR2 := Lib.hid (HR.out.snoc hd0 (by omega) hu)
      have hxl : xs.length ≤ 101 := by omega
      clear hu
      go_wp2_with (at_builtin; refine wpList_append_sl GSam.vals 2 16 (fun _ => rfl) sam_one 23 89 _ infoSam' rfl (by omega) Tryz.underlying23 rfl _ _ rfl w.heap.size xs [⟨F + d, u⟩] (.slice A xs.length c) rfl HO4.out (some ⟨w4.heap.size, 0, none⟩) 1 (w4.heap.size + 1) rfl HN.out (by simp [maxLen]; omega) (by simp; omega) (by simp; omega) ?_; intro v' w5 hO5 hg5 _; obtain ⟨A5, c5, rfl⟩ := hO5.form; have HO5 := Lib.hid hO5; clear hO5; have Hg5 := Lib.hid hg5; clear hg5)
      have hgn : w.grownBy w5 (some b) := grown_new (grown_trans HG.out (grown_trans HG4.out (grown_of_below (bal (Below.refl _ w4) (.cells #[.int .i64 (F + d), .int .i64 u] 89)) _))) Hg5.out (fun g e => (World.ownsRow.lt HO4.out g e).1)
      have hsn : Src w5 b (p + 1 + 1 + 1 + 1) := (Hs4.out.keep ((bal (Below.refl _ w4) (.cells #[.int .i64 (F + d), .int .i64 u] 89)).mono (by omega))).keep (below_of_grown Hg5.out (by simp; omega) (fun g e => by have := (World.ownsRow.lt HO4.out g e).1; omega))
      have Hgn := Lib.hid hgn; clear hgn
      have Hsn := Lib.hid hsn; clear hsn
      go_roundw
      case rel => exact ⟨F + d + 1, A5, c5, xs ++ [⟨F + d, u⟩], j, p + 1 + 1 + 1 + 1, by go_num, by simp, by go_num, by simp; omega, by omega, HR2, HO5, Hsn, Hgn⟩
      case measure => simp [intOf]
    · obtain rfl : j = 0 := by omega
      go_wp2
      go_ret
      exact ⟨A, c, xs, F, rfl, HO.out, HR.out, by omega, HS.out.more (by omega), HG.out⟩

theorem samplesOf_any (A : Option Addr) (bs : List Int) (c : Nat) (fr n : Int) (w : World) (h : BytesAt w w.heap.size A bs) (hx : ∀ x ∈ bs, 0 ≤ x ∧ x ≤ 255) (hl : bs.length ≤ 1048576) (hfr : 0 ≤ fr) (hfr2 : fr ≤ 1000000) (hn : 0 ≤ n) (hn2 : n ≤ 100) :
    Calls Tryz.prog 8 #[.slice A bs.length c, .int .i64 fr, .int .i64 n] w fun e w' => ∃ (A' : Option Addr) (c' : Nat) (xs : List GSam) (F : Int),
      e = .returned (.slice A' xs.length c') ∧ OwnSl GSam.vals 2 89 w.heap.size w' (.slice A' xs.length c') xs ∧ RiseT fr F xs ∧ (xs.length : Int) ≤ n ∧ Below w.heap.size w w' := by
  go_enter Tryz.func8, Tryz.ntmps8
  go_wp2_with fail
  refine (srcSource_any A bs c w h hx hl).mono ?_
  rintro e w1 ⟨rfl, hs, hb1⟩
  have Hs := Lib.hid hs; clear hs h hx
  have hlt : w.heap.size < w1.heap.size := Hs.out.lt
  go_wp2_with fail
  refine (srcSamples_any fr n w.heap.size 0 w1 Hs.out hlt (by omega) hfr hfr2 hn hn2).mono ?_
  rintro e w2 ⟨A', c', xs, F, rfl, hO, hR, hlen, _, hg⟩
  have HO := Lib.hid hO; clear hO
  have HR := Lib.hid hR; clear hR
  have Hb := Lib.hid (hb1.trans (below_of_grown hg hb1.size (fun g e => by injection e; omega))); clear hg hb1
  go_wp2
  go_ret
  exact ⟨A', c', xs, F, rfl, ⟨HO.out.1, HO.out.2.imp id (fun ⟨g, cap, cur, e1, e2, e3⟩ => ⟨g, cap, cur, e1, by omega, e3⟩)⟩, HR.out, hlen, Hb.out⟩

end Go.Proofs.YtjmfffmjfbpgjaaGreatDoor
