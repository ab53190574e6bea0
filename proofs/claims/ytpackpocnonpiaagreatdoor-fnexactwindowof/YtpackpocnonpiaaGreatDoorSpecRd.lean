/-
  Contracts of the model's l02Numbers, l02Read and ReadAgg: just the text of a right aggregate is read. Conditions: a text's length.
-/
import Derived.Test.YtpackpocnonpiaaGreatDoorParts
import Derived.Test.YtpackpocnonpiaaGreatDoorL00Num
import Derived.Test.YtpackpocnonpiaaGreatDoorAggB
import Derived.Test.YtpackpocnonpiaaGreatDoorSetAgg
import Derived.Test.YtpackpocnonpiaaGreatDoorNumTxt
import Derived.Deep.RegionHeld3
namespace Go.Proofs.YtpackpocnonpiaaGreatDoor
open Go.ChangeShapes Go.WideShapes Go.ChangeAt Go.RowKit
set_option linter.unusedVariables false
set_option linter.unusedSimpArgs false

def niV (n : Int) : List Value := [.int .i64 n]

theorem niV_one (n : Int) : ∀ u ∈ niV n, u.oneCell' = true := by
  intro u hu
  simp [niV] at hu
  subst hu; rfl

theorem new_ni (w : World) (n : Int) (e : TypeId) : Sl niV 1 (w.alloc (.cells #[.int .i64 n] e)) (w.heap.size + 1) (some ⟨w.heap.size, 0, none⟩) [n] := by
  intro _
  refine ⟨w.heap.size, 0, rfl, by omega, fun k hk j v hv => ?_⟩
  obtain rfl : k = 0 := by simpa using hk
  rw [World.cell?_alloc_new]
  match j, hv with
  | 0, hv => simpa [niV] using hv
  | j + 1, hv => simp [niV] at hv

theorem infoNi : (Tryz.prog.info? 3).map (fun i => (i.zero, i.size, i.bytes)) = some (some (.int .i64 0), 1, 8) := by kernel_rfl

/-- what l02Numbers answers -/
def NumsRd (t : ByteArray) (c : UInt8) (n : Nat) (ns : List Int) (b : Bool) : Prop := (b = true ∧ ns.length = n ∧ NumsOf t c ns ∧ ∀ x ∈ ns, FitI x) ∨ (b = false ∧ ∀ ms, ms.length = n → (∀ m ∈ ms, Small m) → ¬ NumsOf t c ms)

theorem cut_len {t : ByteArray} {c : UInt8} {ps : List ByteArray} {last : ByteArray} (h : CutOf t c ps last) : (∀ p ∈ ps ++ [last], p.size ≤ t.size) ∧ ps.length ≤ t.size := by
  have hs : t.size = t.data.toList.length := by rw [Array.length_toList]; rfl
  have key : ∀ (qs : List ByteArray), qs.length ≤ (flatC c qs).length ∧ ∀ p ∈ qs, p.data.toList.length ≤ (flatC c qs).length := by
    intro qs
    induction qs with
    | nil => simp
    | cons q qs ih =>
      have e : (flatC c (q :: qs)).length = q.data.toList.length + 1 + (flatC c qs).length := by simp [flatC]; omega
      rw [e]
      refine ⟨by simp; omega, fun p hp => ?_⟩
      rcases List.mem_cons.1 hp with rfl | hp
      · omega
      · have := ih.2 p hp; omega
  have hk := key ps
  have e := congrArg List.length h.1
  rw [List.length_append, ← hs] at e
  refine ⟨fun p hp => ?_, by omega⟩
  have hp' : p.size = p.data.toList.length := by rw [Array.length_toList]; rfl
  rcases List.mem_append.1 hp with hp | hp
  · have := hk.2 p hp; omega
  · simp at hp; subst hp; omega

set_option maxRecDepth 100000 in
theorem l02Numbers_any (t : ByteArray) (c : UInt8) (n : Nat) (w : World) (hc : NoNum c) (ht : t.size ≤ 1000000) : Calls Tryz.prog 145 #[.string t, .int .u8 (c.toNat : Int), .int .i64 n] w fun e w' => ∃ A k ns b, e = .returned (.tuple #[.slice A ns.length k, .bool b]) ∧ NumsRd t c n ns b ∧ OwnSl niV 1 3 w.heap.size w' (.slice A ns.length k) ns ∧ Below w.heap.size w w' := by
  have Hc := Lib.hid hc; clear hc
  go_enter Tryz.func145, Tryz.ntmps145
  go_wp2_with fail
  refine (l00Cut_any t c w (by omega)).mono ?_
  rintro e w1 ⟨A1, k1, ps, last, rfl, hO, hC, hb1⟩
  obtain ⟨xs, hxs⟩ : ∃ xs, xs = ps ++ [last] := ⟨_, rfl⟩
  have hxl : ps.length + 1 = xs.length := by rw [hxs]; simp
  obtain ⟨hz1, hz2⟩ := cut_len hC
  rw [← hxs] at hz1
  have hxm : xs.length ≤ 1000001 := by omega
  rw [← hxs, hxl] at hO
  have HF := Lib.hid (show (∀ ms, NumsOf t c ms → xs = ms.map numT) ∧ Pieces t c xs from ⟨fun ms h => by rw [hxs]; exact h.of_cut Hc.out hC, by rw [hxs]; exact hC.pieces⟩)
  have HZ := Lib.hid hz1; clear hz1
  obtain ⟨hsl, _, _, _⟩ := OwnSl.sl hO (fun x => rfl)
  have Hsl := Lib.hid hsl; clear hsl hO hC hz2
  rw [hxl]
  clear hxs hxl
  go_wp2_with fail
  have o0 : OwnSl niV 1 3 w1.heap.size (w1.alloc (.cells #[] 3)) (.slice (some ⟨w1.heap.size, 0, none⟩) 0 0) [] := own_empty _ _ _ w1
  have hbw : Below w1.heap.size w1 (w1.alloc (.cells #[] 3)) := bal (Below.refl _ _) _
  generalize w1.alloc (.cells #[] 3) = w2 at o0 hbw ⊢
  have O0 := Lib.hid o0; clear o0
  have own_up : ∀ {w' : World} {v : Value} {ns : List Int}, OwnSl niV 1 3 w1.heap.size w' v ns → OwnSl niV 1 3 w.heap.size w' v ns := fun h => ⟨h.1, by
    rcases h.2 with h | ⟨g, cap, cur, e, hb, r⟩
    · exact Or.inl h
    · exact Or.inr ⟨g, cap, cur, e, Nat.le_trans hb1.size hb, r⟩⟩
  go_loopw [9, 10] (fun o i wr => ∃ (A : Option Addr) (k j : Nat) (ns : List Int), o = .slice A ns.length k ∧ i = .int .i64 j ∧ j ≤ xs.length ∧ Hid (ns.length = j) ∧ Hid (OwnSl niV 1 3 w1.heap.size wr (.slice A ns.length k) ns) ∧ Hid (xs.take j = ns.map numT ∧ ∀ n ∈ ns, FitI n) ∧ Below w1.heap.size w1 wr) (fun _ i _ => xs.length - (intOf i).toNat)
  case atStart => exact ⟨_, _, 0, [], rfl, rfl, by omega, Lib.hid rfl, O0, Lib.hid ⟨rfl, by simp⟩, hbw⟩
  case round =>
    clear O0 hbw
    obtain ⟨A, k, j, ns, rfl, rfl, hj, HL, HO, HT, hb⟩ := hrel
    have hnm : ns.length ≤ 1000001 := by have := HL.out; omega
    by_cases hlt : j < xs.length
    · obtain ⟨b, o, rfl, hbb, hcl⟩ := Sl.at_ Hsl.out hlt
      have q0 : wr.cell? ⟨b, o + j, none⟩ = some (.string xs[j]) := by
        have := hcl 0 (.string xs[j]) rfl
        simp only [Nat.mul_one, Nat.add_zero] at this
        exact (hb.cell (p := ⟨b, o + j, none⟩) hbb).trans this
      have hxz := HZ.out xs[j] (List.getElem_mem hlt)
      have hrd := l02Number_any xs[j] wr (by omega)
      have Hrd := Lib.hid hrd; clear hrd
      have HX := Lib.hid (show xs.take (j + 1) = xs.take j ++ [xs[j]] from List.take_succ_eq_append_getElem hlt)
      have HX2 := Lib.hid (show ∀ ms : List Int, xs = ms.map numT → ∃ m ∈ ms, xs[j] = numT m from fun ms e => by
        have : xs[j] ∈ ms.map numT := by rw [← e]; exact List.getElem_mem hlt
        obtain ⟨m, hm, e⟩ := List.mem_map.1 this
        exact ⟨m, hm, e.symm⟩)
      clear hcl hxz
      generalize xs[j] = X at *
      go_wp2_with fail
      refine Hrd.out.mono ?_
      rintro e w3 ⟨m, b2, rfl, hm, hb3⟩
      clear Hrd
      have b3 := bnext hb hb3
      have HO3 := Lib.hid (HO.out.below hb3)
      rcases hm with ⟨rfl, rfl, hf1, hf2⟩ | ⟨rfl, hno⟩
      · have HT2 := Lib.hid (show xs.take (j + 1) = (ns ++ [m]).map numT ∧ ∀ n ∈ ns ++ [m], FitI n from by
          refine ⟨by rw [HX.out, HT.out.1]; simp, fun x hx => ?_⟩
          rcases List.mem_append.1 hx with hx | hx
          · exact HT.out.2 x hx
          · simp at hx; subst hx; exact ⟨hf1, hf2⟩)
        have hO4 := HO3.out.below (bal (Below.refl _ w3) (.cells #[.int .i64 m] 3))
        have HO4 := Lib.hid hO4; clear hO4
        have HNw := Lib.hid (new_ni w3 m 3)
        have sz : w1.heap.size ≤ w3.heap.size := b3.size
        have Hb4 := Lib.hid (bal b3 (.cells #[.int .i64 m] 3))
        clear HT HX HX2 HO HO3 q0 hb3
        go_wp2_with (at_builtin; refine wpList_append_sl niV 1 8 (fun _ => rfl) niV_one 185 3 _ infoNi rfl (by omega) Tryz.underlying185 rfl _ _ rfl w1.heap.size ns [m] (.slice A ns.length k) rfl HO4.out (some ⟨w3.heap.size, 0, none⟩) 1 (w3.heap.size + 1) rfl HNw.out (by simp [maxLen]; omega) (by simp; omega) (by simp; omega) ?_; intro v' w5 hO5 hg5 _; obtain ⟨A5, c5, rfl⟩ := hO5.form; have HO5 := Lib.hid hO5; clear hO5; have Hg5 := Lib.hid hg5; clear hg5)
        have hb5 : Below w1.heap.size w1 w5 := Hb4.out.trans (below_of_grown Hg5.out (by simp; omega) (fun g e => (World.ownsRow.lt HO4.out g e).1))
        go_roundw
        case rel => exact ⟨A5, c5, j + 1, ns ++ [m], by simp, by go_num, by omega, Lib.hid (by simp [HL.out]), HO5, HT2, hb5⟩
        case measure => simp [intOf]; omega
      · have HN := Lib.hid (show ∀ ms, ms.length = n → (∀ m ∈ ms, Small m) → ¬ NumsOf t c ms from fun ms _ hs h => by
          obtain ⟨m, hm, e⟩ := HX2.out ms (HF.out.1 ms h)
          exact hno m (hs m hm) e)
        have oE : OwnSl niV 1 3 w3.heap.size (w3.alloc (.cells #[] 3)) (.slice (some ⟨w3.heap.size, 0, none⟩) 0 0) [] := own_empty _ _ _ w3
        have OE := Lib.hid oE; clear oE
        have bE := Lib.hid (bnext hb1 (bal b3 (.cells #[] 3)))
        have sz : w.heap.size ≤ w3.heap.size := Nat.le_trans hb1.size b3.size
        clear HX HX2 HT HO HO3 q0 hb3 hno
        go_wp2
        refine bodyPost_ret (v := .tuple #[.slice (some ⟨w3.heap.size, 0, none⟩) 0 0, .bool false]) (by simp [results, Tryz.results145, go_sem]) rfl ⟨_, _, [], false, rfl, Or.inr ⟨rfl, HN.out⟩, ?_, bE.out⟩
        refine ⟨OE.out.1, ?_⟩
        rcases OE.out.2 with h | ⟨g, cap, cur, e, hb, r⟩
        · exact Or.inl h
        · exact Or.inr ⟨g, cap, cur, e, Nat.le_trans sz hb, r⟩
    · obtain rfl : j = xs.length := by omega
      have hT : xs = ns.map numT := by have := HT.out.1; rwa [List.take_length] at this
      have HOu := Lib.hid (own_up HO.out)
      have hbw := bnext hb1 hb
      have hnl := HL.out
      cases hd : ((ns.length : Int) == (n : Int))
      · have HN := Lib.hid (show NumsRd t c n ns false from Or.inr ⟨rfl, fun ms hl _ h => by
          have := congrArg List.length (HF.out.1 ms h)
          rw [List.length_map] at this
          rw [beq_eq_false_iff_ne] at hd
          omega⟩)
        clear hT HT HO hnl
        go_wp2
        exact bodyPost_ret (v := .tuple #[.slice A ns.length k, .bool false]) (by simp [results, Tryz.results145, go_sem]) rfl ⟨A, k, ns, false, rfl, HN.out, HOu.out, hbw⟩
      · have HN := Lib.hid (show NumsRd t c n ns true from Or.inl ⟨rfl, by rw [beq_iff_eq] at hd; omega, by unfold NumsOf; rw [← hT]; exact HF.out.2, HT.out.2⟩)
        clear hT HT HO hnl
        go_wp2
        exact bodyPost_ret (v := .tuple #[.slice A ns.length k, .bool true]) (by simp [results, Tryz.results145, go_sem]) rfl ⟨A, k, ns, true, rfl, HN.out, HOu.out, hbw⟩

/-- a text is that of a right aggregate -/
def AggRead (t : ByteArray) (a : GAgg) : Prop := AggP a ∧ NumsOf t 44 a.nums

def NoAgg (t : ByteArray) : Prop := ∀ a, ¬ AggRead t a

theorem comma_no : NoNum 44 := Or.inl (by decide)

theorem aggP_small {a : GAgg} (h : AggP a) : ∀ n ∈ a.nums, Small n := by
  intro n hn
  unfold Small
  rcases h with rfl | ⟨h1, h2, h3, h4, h5, h6, h7, h8, h9, h10, h11, h12⟩
  · simp [GAgg.nums, zAgg] at hn
    omega
  · have m1 : a.cnt * -1000000 ≤ a.cnt * a.mn := Int.mul_le_mul_of_nonneg_left h3 (by omega)
    have m2 : a.cnt * a.mx ≤ a.cnt * 1000000 := Int.mul_le_mul_of_nonneg_left h6 (by omega)
    simp [GAgg.nums] at hn
    omega

theorem small_fitI {n : Int} (h : Small n) : FitI n := by unfold Small at h; unfold FitI; omega

theorem aggRead_one {t : ByteArray} {a b : GAgg} (h : AggRead t a) (k : AggRead t b) : a = b := by
  have := nums_one comma_no h.2 k.2 (fun n hn => small_fitI (aggP_small h.1 n hn)) (fun n hn => small_fitI (aggP_small k.1 n hn))
  obtain ⟨a0, a1, a2, a3, a4, a5⟩ := a
  obtain ⟨b0, b1, b2, b3, b4, b5⟩ := b
  simp [GAgg.nums] at this
  simp [this]

/-- what is read of an aggregate's text -/
def AggRd (t : ByteArray) (a : GAgg) (b : Bool) : Prop := (b = true ∧ AggRead t a) ∨ (b = false ∧ a = zAgg ∧ NoAgg t)

theorem noAgg_of {t : ByteArray} (h : ∀ ms, ms.length = 6 → (∀ m ∈ ms, Small m) → ¬ NumsOf t 44 ms) : NoAgg t := fun a ha => h a.nums rfl (aggP_small ha.1) ha.2

theorem six_list {ns : List Int} (h : ns.length = 6) : ∃ a : GAgg, a.nums = ns := by
  match ns, h with
  | [a, b, c, d, e, f], _ => exact ⟨⟨a, b, c, d, e, f⟩, rfl⟩

theorem noAgg_bad {t : ByteArray} {a : GAgg} (h : NumsOf t 44 a.nums) (hf : ∀ n ∈ a.nums, FitI n) (hp : ¬ AggP a) : NoAgg t := fun b hb => by
  have := nums_one comma_no h hb.2 hf (fun n hn => small_fitI (aggP_small hb.1 n hn))
  apply hp
  obtain ⟨a0, a1, a2, a3, a4, a5⟩ := a
  obtain ⟨b0, b1, b2, b3, b4, b5⟩ := b
  simp [GAgg.nums] at this
  obtain ⟨rfl, rfl, rfl, rfl, rfl, rfl⟩ := this
  exact hb.1

theorem nums_cells {w : World} {B b o : Nat} {a : GAgg} (h : Sl niV 1 w B (some ⟨b, o, none⟩) a.nums) : (w.cell? ⟨b, o, none⟩ = some (.int .i64 a.cnt) ∧ w.cell? ⟨b, o + 1, none⟩ = some (.int .i64 a.sum) ∧ w.cell? ⟨b, o + 2, none⟩ = some (.int .i64 a.mn) ∧ w.cell? ⟨b, o + 3, none⟩ = some (.int .i64 a.mx) ∧ w.cell? ⟨b, o + 4, none⟩ = some (.int .i64 a.fst) ∧ w.cell? ⟨b, o + 5, none⟩ = some (.int .i64 a.lst)) ∧ b < B := by
  obtain ⟨b', o', e, hb, hc⟩ := h (by simp [GAgg.nums])
  injection e with e
  injection e with e1 e2
  subst e1 e2
  exact ⟨⟨hc 0 (by simp [GAgg.nums]) 0 _ rfl, hc 1 (by simp [GAgg.nums]) 0 _ rfl, hc 2 (by simp [GAgg.nums]) 0 _ rfl, hc 3 (by simp [GAgg.nums]) 0 _ rfl, hc 4 (by simp [GAgg.nums]) 0 _ rfl, hc 5 (by simp [GAgg.nums]) 0 _ rfl⟩, hb⟩

/-- an aggregate's variable, of zeros, in block x -/
def ZeroAt (w : World) (x : Nat) : Prop := Six w x zAgg ∧ Free w (some ⟨x, 0, none⟩) ∧ x < w.heap.size

theorem ZeroAt.new (w : World) (t : TypeId) : ZeroAt (w.alloc (.cells #[.int .i64 0, .int .i64 0, .int .i64 0, .int .i64 0, .int .i64 0, .int .i64 0] t)) w.heap.size := ⟨Six.new w zAgg t, free_alloc w _ t 0, by simp⟩

theorem ZeroAt.below {w w' : World} {x B : Nat} (h : ZeroAt w x) (hb : Below B w w') (hB : x < B) : ZeroAt w' x :=
  ⟨h.1.below hb hB, h.2.1.below hb (fun b e => by simp [blk] at e; omega), Nat.lt_of_lt_of_le h.2.2 hb.size⟩

theorem ZeroAt.cells {w : World} {n : Nat} (h : ZeroAt w n) : (w.cell? ⟨n, 0, none⟩ = some (.int .i64 0) ∧ w.cell? ⟨n, 1, none⟩ = some (.int .i64 0) ∧ w.cell? ⟨n, 2, none⟩ = some (.int .i64 0) ∧ w.cell? ⟨n, 3, none⟩ = some (.int .i64 0) ∧ w.cell? ⟨n, 4, none⟩ = some (.int .i64 0) ∧ w.cell? ⟨n, 5, none⟩ = some (.int .i64 0)) ∧
    w.frozen? ⟨n, 0, none⟩ = false ∧ w.frozen? ⟨n, 1, none⟩ = false ∧ w.frozen? ⟨n, 2, none⟩ = false ∧ w.frozen? ⟨n, 3, none⟩ = false ∧ w.frozen? ⟨n, 4, none⟩ = false ∧ w.frozen? ⟨n, 5, none⟩ = false :=
  ⟨h.1, h.2.1 _ rfl 0, h.2.1 _ rfl 1, h.2.1 _ rfl 2, h.2.1 _ rfl 3, h.2.1 _ rfl 4, h.2.1 _ rfl 5⟩

set_option maxRecDepth 100000 in
theorem l02Read_any (t : ByteArray) (w : World) (ht : t.size ≤ 1000000) : Calls Tryz.prog 149 #[.string t] w fun e w' => ∃ a b, e = .returned (.tuple #[.agg #[.int .i64 a.cnt, .int .i64 a.sum, .int .i64 a.mn, .int .i64 a.mx, .int .i64 a.fst, .int .i64 a.lst], .bool b]) ∧ AggRd t a b ∧ Below w.heap.size w w' := by
  go_enter Tryz.func149, Tryz.ntmps149
  go_wp2_with fail
  have hZ := ZeroAt.new w 26
  have hbw : Below w.heap.size w (w.alloc (.cells #[.int .i64 0, .int .i64 0, .int .i64 0, .int .i64 0, .int .i64 0, .int .i64 0] 26)) := bal (Below.refl _ _) _
  generalize w.alloc (.cells #[.int .i64 0, .int .i64 0, .int .i64 0, .int .i64 0, .int .i64 0, .int .i64 0] 26) = w0 at *
  generalize hx0 : w.heap.size = x0 at *
  have Hx0 := Lib.hid hx0; clear hx0
  have HZ := Lib.hid hZ; clear hZ
  refine (l02Numbers_any t 44 6 w0 comma_no ht).mono ?_
  rintro e w1 ⟨A, k, ns, b, rfl, hN, hO, hb1⟩
  have b1 : Below x0 w w1 := hbw.trans (hb1.mono (Nat.le_of_lt HZ.out.2.2))
  have HZ1 := Lib.hid (HZ.out.below hb1 HZ.out.2.2)
  rcases hN with ⟨rfl, h6, hN, hf⟩ | ⟨rfl, hno⟩
  · obtain ⟨a, ha⟩ := six_list h6
    subst ha
    obtain ⟨hsl, _, hbk, _⟩ := OwnSl.sl hO (fun x => rfl)
    obtain ⟨b, o, rfl, _, _⟩ := hsl (by simp [GAgg.nums])
    obtain ⟨⟨q0, q1, q2, q3, q4, q5⟩, hbl⟩ := nums_cells hsl
    have HN := Lib.hid hN; clear hN
    have HF := Lib.hid hf; clear hf
    have e6 : a.nums.length = 6 := rfl
    rw [e6]
    clear hsl hbk hO h6 hb1 e6 HZ hbw
    by_cases hp : AggP a
    · have HR := Lib.hid (show AggRd t a true from Or.inl ⟨rfl, hp, HN.out⟩)
      have Hp := Lib.hid hp; clear hp HN HF
      go_wp2_with fail
      go_region_held3 (fun w' => w'.cell? ⟨b, o, none⟩ = some (.int .i64 a.cnt) ∧ w'.cell? ⟨b, o + 1, none⟩ = some (.int .i64 a.sum) ∧ w'.cell? ⟨b, o + 2, none⟩ = some (.int .i64 a.mn) ∧ w'.cell? ⟨b, o + 3, none⟩ = some (.int .i64 a.mx) ∧ w'.cell? ⟨b, o + 4, none⟩ = some (.int .i64 a.fst) ∧ w'.cell? ⟨b, o + 5, none⟩ = some (.int .i64 a.lst)) (first | exact ⟨q0, q1, q2, q3, q4, q5⟩ | (go_keep; done)) (fail)
      have hS2 : Six (w1.alloc (.cells #[.int .i64 a.cnt, .int .i64 a.sum, .int .i64 a.mn, .int .i64 a.mx, .int .i64 a.fst, .int .i64 a.lst] 26)).drew w1.heap.size a := Six.new w1 a _
      have hB2 : Below w1.heap.size w1 (w1.alloc (.cells #[.int .i64 a.cnt, .int .i64 a.sum, .int .i64 a.mn, .int .i64 a.mx, .int .i64 a.fst, .int .i64 a.lst] 26)).drew := (bal (Below.refl _ _) _).drew
      have hL2 : w1.heap.size < (w1.alloc (.cells #[.int .i64 a.cnt, .int .i64 a.sum, .int .i64 a.mn, .int .i64 a.mx, .int .i64 a.fst, .int .i64 a.lst] 26)).drew.heap.size := by simp
      clear q0 q1 q2 q3 q4 q5
      generalize (w1.alloc (.cells #[.int .i64 a.cnt, .int .i64 a.sum, .int .i64 a.mn, .int .i64 a.mx, .int .i64 a.fst, .int .i64 a.lst] 26)).drew = w2 at *
      have HZ2 := Lib.hid (HZ1.out.below hB2 HZ1.out.2.2)
      have b2 : Below x0 w w2 := b1.trans (hB2.mono (Nat.le_of_lt HZ1.out.2.2))
      have hx1 : x0 < w1.heap.size := HZ1.out.2.2
      clear hB2 b1 HZ1
      generalize w1.heap.size = y0 at *
      have HS2 := Lib.hid hS2
      obtain ⟨s0, s1, s2, s3, s4, s5⟩ : (w2.cell? ⟨y0, 0, none⟩ = some (.int .i64 a.cnt) ∧ w2.cell? ⟨y0, 1, none⟩ = some (.int .i64 a.sum) ∧ w2.cell? ⟨y0, 2, none⟩ = some (.int .i64 a.mn) ∧ w2.cell? ⟨y0, 3, none⟩ = some (.int .i64 a.mx) ∧ w2.cell? ⟨y0, 4, none⟩ = some (.int .i64 a.fst) ∧ w2.cell? ⟨y0, 5, none⟩ = some (.int .i64 a.lst)) := hS2
      go_wp2_with fail
      refine (specAggOK_b a true (by simp [Hp.out]) w2).mono ?_
      rintro e w3 ⟨rfl, hb3⟩
      have HZ3 := HZ2.out.below hb3 HZ2.out.2.2
      have b3 : Below x0 w w3 := b2.trans (hb3.mono (Nat.le_of_lt HZ2.out.2.2))
      have hS3 := HS2.out.below hb3 hL2
      obtain ⟨⟨z0, z1, z2, z3, z4, z5⟩, y0', y1', y2', y3', y4', y5'⟩ := HZ3.cells
      clear HZ2 HS2 hb3 b2 s0 s1 s2 s3 s4 s5 HZ3
      obtain ⟨s0, s1, s2, s3, s4, s5⟩ : (w3.cell? ⟨y0, 0, none⟩ = some (.int .i64 a.cnt) ∧ w3.cell? ⟨y0, 1, none⟩ = some (.int .i64 a.sum) ∧ w3.cell? ⟨y0, 2, none⟩ = some (.int .i64 a.mn) ∧ w3.cell? ⟨y0, 3, none⟩ = some (.int .i64 a.mx) ∧ w3.cell? ⟨y0, 4, none⟩ = some (.int .i64 a.fst) ∧ w3.cell? ⟨y0, 5, none⟩ = some (.int .i64 a.lst)) := hS3
      go_wp2
      refine bodyPost_ret (v := .tuple #[.agg #[.int .i64 a.cnt, .int .i64 a.sum, .int .i64 a.mn, .int .i64 a.mx, .int .i64 a.fst, .int .i64 a.lst], .bool true]) (by simp [results, Tryz.results149, go_sem, *]) rfl ⟨a, true, rfl, HR.out, ?_⟩
      rw [Hx0.out]
      exact setAgg_below b3 (Nat.le_refl _) a
    · have HR := Lib.hid (show AggRd t zAgg false from Or.inr ⟨rfl, rfl, noAgg_bad HN.out HF.out hp⟩)
      have Hp := Lib.hid hp; clear hp HN HF
      go_wp2_with fail
      go_region_held3 (fun w' => w'.cell? ⟨b, o, none⟩ = some (.int .i64 a.cnt) ∧ w'.cell? ⟨b, o + 1, none⟩ = some (.int .i64 a.sum) ∧ w'.cell? ⟨b, o + 2, none⟩ = some (.int .i64 a.mn) ∧ w'.cell? ⟨b, o + 3, none⟩ = some (.int .i64 a.mx) ∧ w'.cell? ⟨b, o + 4, none⟩ = some (.int .i64 a.fst) ∧ w'.cell? ⟨b, o + 5, none⟩ = some (.int .i64 a.lst)) (first | exact ⟨q0, q1, q2, q3, q4, q5⟩ | (go_keep; done)) (fail)
      have hS2 : Six (w1.alloc (.cells #[.int .i64 a.cnt, .int .i64 a.sum, .int .i64 a.mn, .int .i64 a.mx, .int .i64 a.fst, .int .i64 a.lst] 26)).drew w1.heap.size a := Six.new w1 a _
      have hB2 : Below w1.heap.size w1 (w1.alloc (.cells #[.int .i64 a.cnt, .int .i64 a.sum, .int .i64 a.mn, .int .i64 a.mx, .int .i64 a.fst, .int .i64 a.lst] 26)).drew := (bal (Below.refl _ _) _).drew
      have hL2 : w1.heap.size < (w1.alloc (.cells #[.int .i64 a.cnt, .int .i64 a.sum, .int .i64 a.mn, .int .i64 a.mx, .int .i64 a.fst, .int .i64 a.lst] 26)).drew.heap.size := by simp
      clear q0 q1 q2 q3 q4 q5
      generalize (w1.alloc (.cells #[.int .i64 a.cnt, .int .i64 a.sum, .int .i64 a.mn, .int .i64 a.mx, .int .i64 a.fst, .int .i64 a.lst] 26)).drew = w2 at *
      have HZ2 := Lib.hid (HZ1.out.below hB2 HZ1.out.2.2)
      have b2 : Below x0 w w2 := b1.trans (hB2.mono (Nat.le_of_lt HZ1.out.2.2))
      have hx1 : x0 < w1.heap.size := HZ1.out.2.2
      clear hB2 b1 HZ1
      generalize w1.heap.size = y0 at *
      have HS2 := Lib.hid hS2
      obtain ⟨s0, s1, s2, s3, s4, s5⟩ : (w2.cell? ⟨y0, 0, none⟩ = some (.int .i64 a.cnt) ∧ w2.cell? ⟨y0, 1, none⟩ = some (.int .i64 a.sum) ∧ w2.cell? ⟨y0, 2, none⟩ = some (.int .i64 a.mn) ∧ w2.cell? ⟨y0, 3, none⟩ = some (.int .i64 a.mx) ∧ w2.cell? ⟨y0, 4, none⟩ = some (.int .i64 a.fst) ∧ w2.cell? ⟨y0, 5, none⟩ = some (.int .i64 a.lst)) := hS2
      go_wp2_with fail
      refine (specAggOK_b a false (by simp [Hp.out]) w2).mono ?_
      rintro e w3 ⟨rfl, hb3⟩
      have HZ3 := HZ2.out.below hb3 HZ2.out.2.2
      have b3 : Below x0 w w3 := b2.trans (hb3.mono (Nat.le_of_lt HZ2.out.2.2))
      have hS3 := HS2.out.below hb3 hL2
      obtain ⟨⟨z0, z1, z2, z3, z4, z5⟩, y0', y1', y2', y3', y4', y5'⟩ := HZ3.cells
      clear HZ2 HS2 hb3 b2 s0 s1 s2 s3 s4 s5 HZ3
      obtain ⟨s0, s1, s2, s3, s4, s5⟩ : (w3.cell? ⟨y0, 0, none⟩ = some (.int .i64 a.cnt) ∧ w3.cell? ⟨y0, 1, none⟩ = some (.int .i64 a.sum) ∧ w3.cell? ⟨y0, 2, none⟩ = some (.int .i64 a.mn) ∧ w3.cell? ⟨y0, 3, none⟩ = some (.int .i64 a.mx) ∧ w3.cell? ⟨y0, 4, none⟩ = some (.int .i64 a.fst) ∧ w3.cell? ⟨y0, 5, none⟩ = some (.int .i64 a.lst)) := hS3
      go_wp2
      refine bodyPost_ret (v := .tuple #[.agg #[.int .i64 0, .int .i64 0, .int .i64 0, .int .i64 0, .int .i64 0, .int .i64 0], .bool false]) (by simp [results, Tryz.results149, go_sem, *]) rfl ⟨zAgg, false, rfl, HR.out, ?_⟩
      rw [Hx0.out]
      exact setAgg_below b3 (Nat.le_refl _) zAgg
  · have HR := Lib.hid (show AggRd t zAgg false from Or.inr ⟨rfl, rfl, noAgg_of hno⟩)
    obtain ⟨⟨z0, z1, z2, z3, z4, z5⟩, y0', y1', y2', y3', y4', y5'⟩ := HZ1.out.cells
    clear hno hO hb1 HZ HZ1 hbw
    go_wp2
    refine bodyPost_ret (v := .tuple #[.agg #[.int .i64 0, .int .i64 0, .int .i64 0, .int .i64 0, .int .i64 0, .int .i64 0], .bool false]) (by simp [results, Tryz.results149, go_sem, *]) rfl ⟨zAgg, false, rfl, HR.out, ?_⟩
    rw [Hx0.out]
    exact setAgg_below b1 (Nat.le_refl _) zAgg

/-- what ReadAgg answers -/
def AggCode (t : ByteArray) (a : GAgg) (cd : Int) : Prop := (65536 < t.size ∧ a = zAgg ∧ cd = 2) ∨ (t.size ≤ 65536 ∧ AggRead t a ∧ cd = 0) ∨ (t.size ≤ 65536 ∧ NoAgg t ∧ a = zAgg ∧ cd = 3)

theorem aggCode_one {t : ByteArray} {a b : GAgg} {c d : Int} (h : AggCode t a c) (k : AggCode t b d) : a = b ∧ c = d := by
  rcases h with ⟨h, rfl, rfl⟩ | ⟨h, h1, rfl⟩ | ⟨h, h1, rfl, rfl⟩ <;> rcases k with ⟨k, rfl, rfl⟩ | ⟨k, k1, rfl⟩ | ⟨k, k1, rfl, rfl⟩
  · exact ⟨rfl, rfl⟩
  · omega
  · omega
  · omega
  · exact ⟨aggRead_one h1 k1, rfl⟩
  · exact absurd h1 (k1 _)
  · omega
  · exact absurd k1 (h1 _)
  · exact ⟨rfl, rfl⟩

end Go.Proofs.YtpackpocnonpiaaGreatDoor
