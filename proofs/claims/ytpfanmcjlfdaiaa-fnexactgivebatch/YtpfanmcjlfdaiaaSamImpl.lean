/-
  Contract of impl.SamplesOK: true just of times and values whose times rise. Conditions: none beside a length's own bound.
-/
import Derived.Test.YtpfanmcjlfdaiaaSamOK
namespace Go.Proofs.Ytpfanmcjlfdaiaa
open Go.ChangeShapes Go.WideShapes Go.ChangeAt Go.RowKit
set_option linter.unusedVariables false

/-- the time ahead of the k-th -/
def lastT (xs : List GSam) (k : Nat) : Int := match k with
  | 0 => -1
  | j + 1 => (xs[j]?.map (·.t)).getD (-1)

theorem lastT_succ {xs : List GSam} {k : Nat} (h : k < xs.length) : lastT xs (k + 1) = xs[k].t := by simp [lastT, h]

theorem elt_iff {xs : List GSam} {k : Nat} (hp : PreS xs k) (h : k < xs.length) : EltOK xs k h ↔ lastT xs k < xs[k].t ∧ xs[k].t < 100000 ∧ inB xs[k].v (-1000000) 1000000 = true := by
  unfold EltOK
  rw [samB_iff, inB_iff]
  match k, h, hp with
  | 0, h, _ =>
    simp only [lastT]
    constructor
    · intro ⟨a, _⟩; omega
    · intro a; exact ⟨by omega, fun i hi => by omega⟩
  | j + 1, h, hp =>
    rw [lastT_succ (by omega)]
    have hj := (hp j (by omega) (by omega)).1
    rw [samB_iff] at hj
    constructor
    · intro ⟨a, b⟩; have := b j rfl; omega
    · intro a
      refine ⟨by omega, fun i hi => ?_⟩
      obtain rfl : i = j := by omega
      exact a.1

set_option maxRecDepth 100000 in
theorem samplesOK_any (A : Option Addr) (c : Nat) (xs : List GSam) (B : Nat) (w : World) (h : SamsAt w B A xs) (hB : B ≤ w.heap.size) (hl : xs.length ≤ 1048576) :
    Calls Try.prog 31 #[.slice A xs.length c] w (IsBB (SamP xs) w) := by
  by_cases hlen : xs.length ≤ 4096
  · have d0 : decide (4096 < (xs.length : Int)) = false := by simp; omega
    have H := Lib.hid h; clear h
    go_enter Try.func31, Try.ntmps31
    go_wp2_with fail
    go_loopw [3, 11] (fun l i wr => ∃ (k : Nat) (t : Int), k ≤ xs.length ∧ i = .int .i64 k ∧ l = .int .i64 t ∧ Hid (t = lastT xs k) ∧ Hid (PreS xs k) ∧ Below w.heap.size w wr) (fun _ i _ => xs.length - (intOf i).toNat)
    case atStart => exact ⟨0, -1, by omega, rfl, rfl, Lib.hid rfl, Lib.hid (fun j _ h => by omega), Below.refl _ _⟩
    case round =>
      obtain ⟨k, t, hk, rfl, rfl, Ht, Hp, hb⟩ := hrel
      by_cases hlt : k < xs.length
      · obtain ⟨b1, o1, rfl, hb1, p0, p1⟩ := SamsAt.sam (Sl.below H.out hb hB) hlt
        have he := elt_iff Hp.out hlt
        rw [← Ht.out] at he
        by_cases h1 : xs[k].t ≤ t
        · have d1 : decide (xs[k].t ≤ t) = true := by simpa using h1
          have Hno := Lib.hid (not_SamP hlt (fun h => by have := he.1 h; omega))
          clear he h1
          go_wp2_with (go_at_call 41; refine (isValue_any _ _).mono ?_; rintro e w' ⟨rfl, rfl⟩)
          go_ret
          exact IsBB.no Hno.out (hb.alloc hb.size _)
        · have d1 : decide (xs[k].t ≤ t) = false := by simpa using h1
          by_cases h2 : 100000 ≤ xs[k].t
          · have d2 : decide (100000 ≤ xs[k].t) = true := by simpa using h2
            have Hno := Lib.hid (not_SamP hlt (fun h => by have := he.1 h; omega))
            clear he h1 h2
            go_wp2_with (go_at_call 41; refine (isValue_any _ _).mono ?_; rintro e w' ⟨rfl, rfl⟩)
            go_ret
            exact IsBB.no Hno.out (hb.alloc hb.size _)
          · have d2 : decide (100000 ≤ xs[k].t) = false := by simpa using h2
            cases h3 : inB xs[k].v (-1000000) 1000000
            · have Hno := Lib.hid (not_SamP hlt (fun h => by have := (he.1 h).2.2; rw [h3] at this; cases this))
              clear he h1 h2
              go_wp2_with (go_at_call 41; refine (isValue_any _ _).mono ?_; rintro e w' ⟨rfl, rfl⟩)
              go_ret
              exact IsBB.no Hno.out (hb.alloc hb.size _)
            · have Hn := Lib.hid (Hp.out.succ hlt (he.2 ⟨by omega, by omega, h3⟩))
              have Hl := Lib.hid (lastT_succ (xs := xs) (k := k) hlt).symm
              clear he h1 h2
              go_wp2_with (go_at_call 41; refine (isValue_any _ _).mono ?_; rintro e w' ⟨rfl, rfl⟩)
              go_roundw
              case rel => exact ⟨k + 1, xs[k].t, by omega, by go_num, rfl, Hl, Hn, hb.alloc hb.size _⟩
              case measure => simp [intOf]; omega
      · have hy : SamP xs := ⟨hlen, by obtain rfl : k = xs.length := by omega
                                       exact Hp.out⟩
        have Hy := Lib.hid hy; clear hy
        go_wp2
        go_ret
        exact IsBB.yes Hy.out hb
  · have d0 : decide (4096 < (xs.length : Int)) = true := by simp; omega
    have hn : ¬ SamP xs := fun h => hlen h.1
    have Hn := Lib.hid hn; clear hn h
    go_enter Try.func31, Try.ntmps31
    go_wp2
    go_ret
    exact IsBB.no Hn.out (Below.refl _ _)

end Go.Proofs.Ytpfanmcjlfdaiaa
