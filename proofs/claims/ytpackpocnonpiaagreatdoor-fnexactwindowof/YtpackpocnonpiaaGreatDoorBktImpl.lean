/-
  Contract of impl.BucketsOK: true just of at most eight right buckets whose beginnings are times that rise. A slice of buckets that came in, opened. Conditions: none beside a length's own bound.
-/
import Derived.Test.YtpackpocnonpiaaGreatDoorBktOK
namespace Go.Proofs.YtpackpocnonpiaaGreatDoor
open Go.ChangeShapes Go.WideShapes Go.ChangeAt Go.RowKit Go.Deep Go.Joins
set_option linter.unusedVariables false

/-- the beginning ahead of the k-th -/
def lastB (xs : List GBkt) (k : Nat) : Int := match k with
  | 0 => -1
  | j + 1 => (xs[j]?.map (·.beg)).getD (-1)

theorem lastB_succ {xs : List GBkt} {k : Nat} (h : k < xs.length) : lastB xs (k + 1) = xs[k].beg := by simp [lastB, h]

theorem eltB_iff {xs : List GBkt} {k : Nat} (hp : PreB xs k) (h : k < xs.length) : EltB xs k h ↔ lastB xs k < xs[k].beg ∧ xs[k].beg < 100000 ∧ xs[k].agg.cnt ≠ 0 ∧ AggP xs[k].agg := by
  unfold EltB
  rw [inB_iff]
  match k, h, hp with
  | 0, h, _ =>
    simp only [lastB]
    constructor
    · intro ⟨a, b, c, _⟩; exact ⟨by omega, by omega, c, b⟩
    · intro ⟨a, b, c, d⟩; exact ⟨by omega, d, c, fun i hi => by omega⟩
  | j + 1, h, hp =>
    rw [lastB_succ (by omega)]
    have hj := (hp j (by omega) (by omega)).1
    rw [inB_iff] at hj
    constructor
    · intro ⟨a, b, c, d⟩; have := d j rfl; exact ⟨by omega, by omega, c, b⟩
    · intro ⟨a, b, c, d⟩
      refine ⟨by omega, d, c, fun i hi => ?_⟩
      obtain rfl : i = j := by omega
      exact a

set_option maxRecDepth 100000 in
theorem bucketsOK_any (A : Option Addr) (c : Nat) (xs : List GBkt) (B : Nat) (w : World) (h : BktsAt w B A xs) (hB : B ≤ w.heap.size) (hl : xs.length ≤ 1048576) :
    Calls Tryz.prog 163 #[.slice A xs.length c] w (IsBB (BktP xs) w) := by
  by_cases hlen : xs.length ≤ 8
  · have d0 : decide (8 < (xs.length : Int)) = false := by simp; omega
    have H := Lib.hid h; clear h
    go_enter Tryz.func163, Tryz.ntmps163
    go_wp2_with fail
    go_loopw [3, 11] (fun l i wr => ∃ (k : Nat) (t : Int), k ≤ xs.length ∧ i = .int .i64 k ∧ l = .int .i64 t ∧ Hid (t = lastB xs k) ∧ Hid (PreB xs k) ∧ Below w.heap.size w wr) (fun _ i _ => xs.length - (intOf i).toNat)
    case atStart => exact ⟨0, -1, by omega, rfl, rfl, Lib.hid rfl, Lib.hid (fun j _ h => by omega), Below.refl _ _⟩
    case round =>
      obtain ⟨k, t, hk, rfl, rfl, Ht, Hp, hb⟩ := hrel
      by_cases hlt : k < xs.length
      · obtain ⟨b1, o1, rfl, hb1, p0, p1, p2, p3, p4, p5, p6⟩ := BktsAt.bkt (Sl.below H.out hb hB) hlt
        have he := eltB_iff Hp.out hlt
        rw [← Ht.out] at he
        by_cases h1 : xs[k].beg ≤ t
        · have d1 : decide (xs[k].beg ≤ t) = true := by simpa using h1
          have Hno := Lib.hid (not_BktP hlt (fun h => by have := he.1 h; omega))
          clear he h1
          go_wp2
          go_ret
          exact IsBB.no Hno.out (hb.alloc hb.size _)
        have d1 : decide (xs[k].beg ≤ t) = false := by simpa using h1
        by_cases h2 : 100000 ≤ xs[k].beg
        · have d2 : decide (100000 ≤ xs[k].beg) = true := by simpa using h2
          have Hno := Lib.hid (not_BktP hlt (fun h => by have := he.1 h; omega))
          clear he h1 h2
          go_wp2
          go_ret
          exact IsBB.no Hno.out (hb.alloc hb.size _)
        have d2 : decide (100000 ≤ xs[k].beg) = false := by simpa using h2
        by_cases h3 : xs[k].agg.cnt = 0
        · have d3 : (xs[k].agg.cnt == 0) = true := by simpa using h3
          have Hno := Lib.hid (not_BktP hlt (fun h => (he.1 h).2.2.1 h3))
          clear he h1 h2 h3
          go_wp2
          go_ret
          exact IsBB.no Hno.out (hb.alloc hb.size _)
        have d3 : (xs[k].agg.cnt == 0) = false := by simpa using h3
        by_cases h4 : AggP xs[k].agg
        · have Hn := Lib.hid (Hp.out.succ hlt (he.2 ⟨by omega, by omega, h3, h4⟩))
          have Hl := Lib.hid (lastB_succ (xs := xs) (k := k) hlt).symm
          have H4 := Lib.hid h4
          clear he h1 h2 h3 h4
          go_wp2_with fail
          refine (aggOK_b xs[k].agg true (by simp [H4.out]) _).mono ?_
          rintro e w2 ⟨rfl, hb2⟩
          have b2 : Below w.heap.size w w2 := (hb.alloc hb.size _).trans (hb2.mono (by have := hb.size; simp; omega))
          have q0 : w2.cell? ⟨wr.heap.size, 0, none⟩ = some (.int .i64 xs[k].beg) := (hb2.cell (by simp)).trans (by simp)
          clear hb2 p0 p1 p2 p3 p4 p5 p6
          go_wp2
          go_roundw
          case rel => exact ⟨k + 1, xs[k].beg, by omega, by go_num, rfl, Hl, Hn, b2⟩
          case measure => simp [intOf]; omega
        · have Hno := Lib.hid (not_BktP hlt (fun h => h4 (he.1 h).2.2.2))
          have H4 := Lib.hid h4
          clear he h1 h2 h3 h4
          go_wp2_with fail
          refine (aggOK_b xs[k].agg false (by simp [H4.out]) _).mono ?_
          rintro e w2 ⟨rfl, hb2⟩
          have b2 : Below w.heap.size w w2 := (hb.alloc hb.size _).trans (hb2.mono (by have := hb.size; simp; omega))
          clear hb2 p0 p1 p2 p3 p4 p5 p6
          go_wp2
          go_ret
          exact IsBB.no Hno.out b2
      · have hy : BktP xs := ⟨hlen, by obtain rfl : k = xs.length := by omega
                                       exact Hp.out⟩
        have Hy := Lib.hid hy; clear hy
        go_wp2
        go_ret
        exact IsBB.yes Hy.out hb
  · have d0 : decide (8 < (xs.length : Int)) = true := by simp; omega
    have hn : ¬ BktP xs := fun h => hlen h.1
    have Hn := Lib.hid hn; clear hn h
    go_enter Tryz.func163, Tryz.ntmps163
    go_wp2
    go_ret
    exact IsBB.no Hn.out (Below.refl _ _)

section

variable {H : Type} {enc : TypeId × Value → H} {base : Nat} {spare : Nat → Bool} {held : Bool}

theorem open_bkt' {P : Program} {w : World} {t : TypeId} {f0 f1 g0 g1 g2 g3 g4 g5 : Field} {n : Nat} {cs : List Value} {y : DataW H × List MemPlace} (ht : P.underlying t = some (.struct #[f0, f1])) (ho0 : f0.offset = 0) (ho1 : f1.offset = 1) (hc0 : P.cellsOf f0.type = 1) (hc1 : P.cellsOf f1.type = 6)
    (u0 : P.underlying f0.type = some (.int .i64)) (u1 : P.underlying f1.type = some (.struct #[g0, g1, g2, g3, g4, g5])) (hone : oneCellFields P #[g0, g1, g2, g3, g4, g5] = true)
    (hall : ∀ (i : Nat) f, #[g0, g1, g2, g3, g4, g5][i]? = some f → P.underlying f.type = some (.int .i64)) (hl : cs.length = 7) (h : DataW.trod enc P w base spare held n t cs = some y) : ∃ o : GBkt, cs = o.vals ∧ o.fit := by
  obtain ⟨y0, y1, m, _, _, h0, h1⟩ := trod_struct2 ht h
  rw [ho0, hc0] at h0
  rw [ho1, hc1] at h1
  match cs, hl with
  | [a, b0, b1, b2, b3, b4, b5], _ =>
    obtain ⟨z0, e0, _, l0⟩ := DataW.trod_int u0 h0
    obtain ⟨zs, hz, hcs, hw⟩ := open_nums u1 hone (by rw [hc1]; rfl) hall h1
    match zs, hz with
    | [z1, z2, z3, z4, z5, z6], _ =>
      simp at e0 hcs
      obtain ⟨rfl, rfl, rfl, rfl, rfl, rfl⟩ := hcs
      subst e0
      exact ⟨⟨z0, z1, z2, z3, z4, z5, z6⟩, rfl, i64_of_wf l0, i64_of_wf (hw z1 (by simp)), i64_of_wf (hw z2 (by simp)), i64_of_wf (hw z3 (by simp)), i64_of_wf (hw z4 (by simp)), i64_of_wf (hw z5 (by simp)), i64_of_wf (hw z6 (by simp))⟩

theorem open_bkts' {P : Program} {t e : TypeId} {f0 f1 g0 g1 g2 g3 g4 g5 : Field} {W : World} {r : Reach} {b0 : Nat} {v : Value} {d : DataW H} {p : List MemPlace} (hs : P.underlying t = some (.slice e)) (he : P.underlying e = some (.struct #[f0, f1])) (hce : P.cellsOf e = 7)
    (ho0 : f0.offset = 0) (ho1 : f1.offset = 1) (hc0 : P.cellsOf f0.type = 1) (hc1 : P.cellsOf f1.type = 6)
    (u0 : P.underlying f0.type = some (.int .i64)) (u1 : P.underlying f1.type = some (.struct #[g0, g1, g2, g3, g4, g5])) (hone : oneCellFields P #[g0, g1, g2, g3, g4, g5] = true)
    (hall : ∀ (i : Nat) f, #[g0, g1, g2, g3, g4, g5][i]? = some f → P.underlying f.type = some (.int .i64)) (hv : Value.okWide P W r b0 t v) (h : DataW.Trod enc P W base spare held t v d p) :
    ∃ (A : Option Addr) (c : Nat) (xs : List GBkt), v = .slice A xs.length c ∧ BktsAt W W.heap.size A xs ∧ (∀ o ∈ xs, o.fit) ∧ xs.length ≤ maxLen := by
  obtain ⟨a0, len, cap, rfl⟩ := okWide_slice hs hv
  obtain ⟨fuel, hf⟩ := h
  obtain ⟨A, c, xs, e1, e2, e3, e4⟩ := open_sl GBkt.vals 7 GBkt.fit hs hce (by omega) (fun n cs y hc hy => open_bkt' he ho0 ho1 hc0 hc1 u0 u1 hone hall hc hy) (by simpa [Value.cells] using hf)
  exact ⟨A, c, xs, e1, e2, e3, e4⟩

end

end Go.Proofs.YtpackpocnonpiaaGreatDoor
