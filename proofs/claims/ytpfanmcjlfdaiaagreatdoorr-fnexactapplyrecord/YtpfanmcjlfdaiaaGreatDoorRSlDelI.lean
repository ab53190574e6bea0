/-
  Contracts of slices.Delete of one element, over entries and over tombs of the call's own. Conditions: a length.
-/
import Derived.Test.YtpfanmcjlfdaiaaGreatDoorRTk
import Derived.Test.YtpfanmcjlfdaiaaGreatDoorRSlDel
import Derived.Test.YtpfanmcjlfdaiaaGreatDoorRCloE
import Derived.Deep.RegionHeld3
import Derived.Lib.SliceRun
import Derived.Deep.DeepCutAuto
namespace Go.Proofs.YtpfanmcjlfdaiaaGreatDoorR
open Go.ChangeShapes Go.WideShapes Go.ChangeAt Go.RowKit
set_option linter.unusedVariables false
set_option linter.unusedSimpArgs false

theorem own_addr {α : Type} {f : α → List Value} {m : Nat} {e : TypeId} {base : Nat} {w : World} {A : Option Addr} {c : Nat} {xs : List α} (h : OwnSl f m e base w (.slice A xs.length c) xs) (hn : 0 < xs.length) : ∃ g, A = some ⟨g, 0, none⟩ ∧ xs.length ≤ c ∧ c ≤ maxLen := by
  rcases h.2 with ⟨h', h0⟩ | ⟨g, cap, cur, h', _, _, hnc, hcm, _⟩
  · omega
  · injection h' with e1 e2 e3
    subst e3
    exact ⟨g, e1, hnc, hcm⟩

theorem addA (b o j : Nat) : (⟨b, o, none⟩ : Addr).add j = ⟨b, o + j, none⟩ := by unfold Addr.add; split <;> simp_all

theorem step_append_run {P : Program} {w : World} {ops : Array Oper} {o : Oper} {a : Act} {K : Act → World → Prop} {Q : Exit → Act → World → Prop} {E : Prop} (hgd : o.guard = none) (s x : Operand) (t : TypeId)
    (ho : o.op = .call { callee := .builtin .append, args := #[s, x], argTypes := #[t, t] }) (v u v' : Value) (w' : World) (hs : a.eval s = v) (hx : a.eval x = u) (hr : (Builtin.append_ #[t, t] o.type #[v, u]).run P w = .ok v' w') (h : K (a.put o.dst v') w') :
    if Region.wanted o (yielded ops a.tmps) = true then Oper.wp P o a w K Q else E := by
  have hw : Region.wanted o (yielded ops a.tmps) = true := by simp [Region.wanted, hgd]
  rw [if_pos hw]
  unfold Oper.wp
  simp [execOp, ho, resolve, invoke, builtin, hs, hx, hr, Result.andThen]
  exact h

theorem wpList_clear_run {P : Program} {w : World} {ops : Array Oper} {rest : List Oper} {o : Oper} {a : Act} {Q : Exit → Act → World → Prop} (hgd : o.guard = none) (x : Operand) (t : TypeId)
    (ho : o.op = .call { callee := .builtin .clear, args := #[x], argTypes := #[t] }) (u : Value) (w' : World) (hx : a.eval x = u) (hr : ∀ ty, (Builtin.clear_ #[t] ty #[u]).run P w = .ok (.tuple #[]) w') (h : wpList P ops Q rest (a.put o.dst (.tuple #[])) w') : wpList P ops Q (o :: rest) a w := by
  refine wpList_plain hgd fun K hK => ?_
  unfold Oper.wp
  simp [execOp, ho, resolve, invoke, builtin, hx, hr, Result.andThen]
  exact hK _ _ h

theorem erase_take {α : Type} (xs : List α) (k : Nat) : xs.eraseIdx k = xs.take k ++ xs.drop (k + 1) := List.eraseIdx_eq_take_drop_succ xs k

theorem row_cells {α : Type} {f : α → List Value} {m : Nat} (hf : ∀ x, (f x).length = m) {e : TypeId} {base : Nat} {w : World} {g c : Nat} {xs : List α} (h : OwnSl f m e base w (.slice (some ⟨g, 0, none⟩) xs.length c) xs) (k : Nat) : ∀ j u, ((xs.drop k).flatMap f)[j]? = some u → w.cell? ⟨g, k * m + j, none⟩ = some u := by
  intro j u hj
  have hlen : (xs.flatMap f).length = xs.length * m := flat_length f m hf xs
  have hl2 : ((xs.drop k).flatMap f).length = (xs.length - k) * m := by rw [flat_length f m hf, List.length_drop]
  have hjl : j < (xs.length - k) * m := by rw [← hl2]; exact (List.getElem?_eq_some_iff.1 hj).1
  by_cases hk : k ≤ xs.length
  · have e1 : xs.flatMap f = (xs.take k).flatMap f ++ (xs.drop k).flatMap f := by rw [← List.flatMap_append, List.take_append_drop]
    have e2 : ((xs.take k).flatMap f).length = k * m := by rw [flat_length f m hf, List.length_take, Nat.min_eq_left hk]
    have h1 : (xs.flatMap f)[k * m + j]? = some u := by rw [e1, List.getElem?_append_right (by omega), e2, Nat.add_sub_cancel_left]; exact hj
    have h2 := World.ownsRow.cells h (g := g) rfl (k * m + j) u h1
    have e : (⟨g, 0, none⟩ : Addr).add (k * m + j) = ⟨g, k * m + j, none⟩ := by rw [addA, Nat.zero_add]
    rwa [e] at h2
  · rw [show xs.length - k = 0 by omega, Nat.zero_mul] at hjl
    omega

set_option maxRecDepth 100000 in
set_option maxHeartbeats 2000000 in
theorem deleteEnt_any (base : Nat) (A : Option Addr) (c : Nat) (xs : List GEnt) (k : Nat) (w : World) (h : OwnSl GEnt.vals 4 103 base w (.slice A xs.length c) xs) (hk : k < xs.length) (hl : xs.length ≤ 1048576) :
    Calls Tryz.prog 123 #[.slice A xs.length c, .int .i64 (k : Int), .int .i64 ((k : Int) + 1)] w fun e w' => e = .returned (.slice A (xs.eraseIdx k).length c) ∧ OwnSl GEnt.vals 4 103 base w' (.slice A (xs.eraseIdx k).length c) (xs.eraseIdx k) ∧ w.grownBy w' (blk A) := by
  obtain ⟨g, rfl, hnc, hcm⟩ := own_addr h (by omega)
  obtain ⟨n, hn⟩ : ∃ n, xs.length = n + 1 := ⟨xs.length - 1, by omega⟩
  have hle : (xs.eraseIdx k).length = n := by rw [List.length_eraseIdx_of_lt hk, hn]; rfl
  have hld : (xs.drop (k + 1)).length = n - k := by rw [List.length_drop]; omega
  obtain ⟨i0, hi0, hz0, hz1, hz2⟩ := info_parts infoEnt
  have hof : ∀ u ∈ (xs.drop (k + 1)).flatMap GEnt.vals, u.oneCell' = true := fun u hu => by obtain ⟨o, _, hu⟩ := List.mem_flatMap.1 hu; exact ent_oneC o u hu
  have hown : w.drew.ownsRow base 103 4 (.slice (some ⟨g, 0, none⟩) k c) k ((xs.take k).flatMap GEnt.vals) := World.ownsRow.drew (own_take (f := GEnt.vals) (m := 4) (fun _ => rfl) h (show k ≤ xs.length from Nat.le_of_lt hk))
  have hcells := row_cells (f := GEnt.vals) (m := 4) (fun _ => rfl) (show OwnSl GEnt.vals 4 103 base w.drew (.slice (some ⟨g, 0, none⟩) xs.length c) xs from World.ownsRow.drew h) (k + 1)
  have happ : ∃ w1, (∀ a, (a = (⟨g, (k + 1) * 4, none⟩ : Addr) ∨ (n = k ∧ a = ⟨g, 0, none⟩)) → (Builtin.append_ #[31, 31] 31 #[.slice (some ⟨g, 0, none⟩) k c, .slice (some a) (n - k) (c - (k + 1))]).run Tryz.prog w.drew = .ok (.slice (some ⟨g, 0, none⟩) n c) w1) ∧ w1.ownsRow base 103 4 (.slice (some ⟨g, 0, none⟩) n c) n ((xs.eraseIdx k).flatMap GEnt.vals) ∧ w.drew.grownBy w1 (some g) := by
    have hlen : ((xs.drop (k + 1)).flatMap GEnt.vals).length = (n - k) * 4 := by rw [flat_length GEnt.vals 4 (fun _ => rfl), hld]
    have hadd : ∀ j, (⟨g, (k + 1) * 4, none⟩ : Addr).add j = ⟨g, (k + 1) * 4 + j, none⟩ := fun j => addA _ _ _
    obtain ⟨w1, hr, ho, hg⟩ := run_append_fits (P := Tryz.prog) w.drew base 31 31 103 i0 4 Tryz.underlying31 hi0 hz1 g k c _ hown ⟨g, (k + 1) * 4, none⟩ (n - k) (c - (k + 1)) ((xs.drop (k + 1)).flatMap GEnt.vals) hlen (fun j u hj => by rw [hadd]; exact hcells j u hj) hof (by omega)
    have ek : k + (n - k) = n := by omega
    rw [ek] at hr ho
    rw [erase_take, List.flatMap_append]
    refine ⟨w1, fun a ha => ?_, ho, hg⟩
    rcases ha with rfl | ⟨rfl, rfl⟩
    · exact hr
    · rcases hown.2 with ⟨h', _⟩ | ⟨g', cap', cur, h', _, hgc, _, _, hcs, _⟩
      · simp at h'
      · simp only [Value.slice.injEq, Option.some.injEq, Addr.mk.injEq, and_true, true_and] at h'
        obtain ⟨rfl, rfl⟩ := h'
        have hfit : n * i0.size + ([] : List Value).length ≤ cur.size := by rw [hz1, hcs]; simp; exact Nat.mul_le_mul_right _ (by omega)
        have r1 := run_append_room (P := Tryz.prog) w.drew 31 31 103 i0 Tryz.underlying31 hi0 g n c cur hgc ⟨g, (n + 1) * 4, none⟩ (n - n) (c - (n + 1)) [] (by simp) (by simp) (by simp) (by omega) hfit
        have r2 := run_append_room (P := Tryz.prog) w.drew 31 31 103 i0 Tryz.underlying31 hi0 g n c cur hgc ⟨g, 0, none⟩ (n - n) (c - (n + 1)) [] (by simp) (by simp) (by simp) (by omega) hfit
        rw [r2, ← r1]
        exact hr
  obtain ⟨w1, hA, ho1, hg1⟩ := happ
  have hzv : (zeroValue 103).run Tryz.prog w1 = .ok (.agg #[.int .i64 0, .int .i64 0, .int .i64 0, .string ⟨#[]⟩]) w1 := by kernel_rfl
  have hC := fun ty => run_clear_one (P := Tryz.prog) w1 31 103 ty (.agg #[.int .i64 0, .int .i64 0, .int .i64 0, .string ⟨#[]⟩]) 4 Tryz.underlying31 hzv rfl (by intro u hu; simp [Value.cells] at hu; rcases hu with rfl | rfl | rfl | rfl <;> rfl) g (n * 4) (c - n) (fun j hj => row_cell ho1 (by have : (n + 1) * 4 ≤ c * 4 := Nat.mul_le_mul_right _ (by omega); rw [Nat.add_mul] at this; omega)) (fun j hj => World.ownsRow.frozenAt ho1 _)
  obtain ⟨ho2, hg2⟩ := row_pastS (Value.agg #[.int .i64 0, .int .i64 0, .int .i64 0, .string ⟨#[]⟩]).cells.toList (n * 4) w1 ho1 (Nat.le_refl _)
  have HFIN : Hid (OwnSl GEnt.vals 4 103 base (w1.setCells g (n * 4) (Value.agg #[.int .i64 0, .int .i64 0, .int .i64 0, .string ⟨#[]⟩]).cells.toList) (.slice (some ⟨g, 0, none⟩) n c) (xs.eraseIdx k) ∧ w.grownBy (w1.setCells g (n * 4) (Value.agg #[.int .i64 0, .int .i64 0, .int .i64 0, .string ⟨#[]⟩]).cells.toList) (some g)) := Lib.hid ⟨by unfold OwnSl; rw [hle]; exact ho2, grown_trans (show w.grownBy w1 (some g) from ⟨hg1.os, hg1.tape, hg1.output, hg1.size, hg1.block⟩) hg2⟩
  rw [hle]
  clear ho1 ho2 hg1 hg2 hzv hof hown hcells h hld hle
  generalize w1.setCells g (n * 4) (Value.agg #[.int .i64 0, .int .i64 0, .int .i64 0, .string ⟨#[]⟩]).cells.toList = w2 at *
  rw [hn] at hk hl hnc ⊢
  clear hn
  have i1 : (0 : Int) ≤ (k : Int) + 1 := by omega
  have i2 : (k : Int) ≤ (k : Int) + 1 := by omega
  have i3 : (k : Int) + 1 ≤ (n : Int) + 1 := by omega
  have i4 : n + 1 ≤ c := hnc
  have i5 : ((k : Int) == (k : Int) + 1) = false := beq_false_of_ne (by omega)
  have i6 : (n : Int) + 1 ≤ (c : Int) := by omega
  have i7 : k ≤ c := by omega
  have i8 : (k : Int) ≤ (c : Int) := by omega
  go_enter Tryz.func123, Tryz.ntmps123
  go_upto_region 5 with fail
  by_cases hc : c = k + 1
  · obtain rfl : n = k := by omega
    subst hc
    simp only [show n + 1 - n = 1 by omega] at hC
    have j1 : n + 1 - (n + 1) = 0 := by omega
    refine wp_region_noPanic ?_
    refine wp_region_held_drew (S := fun _ => True) (by kernel_rfl) (trivial) (fun hHeld => ?_)
    refine kT 0 ?_
    go_frame
    refine kT 1 ?_
    go_frame
    refine kT 2 ?_
    go_frame
    refine kT 3 ?_
    go_frame
    refine kT 4 ?_
    go_frame
    refine kT 5 ?_
    go_frame
    have hA1 : (Builtin.append_ #[31, 31] 31 #[.slice (some ⟨g, 0, none⟩) n (n + 1), .slice (some ⟨g, 0, none⟩) 0 0]).run Tryz.prog w.drew = .ok (.slice (some ⟨g, 0, none⟩) n (n + 1)) w1 := by
      have q := hA ⟨g, 0, none⟩ (.inr ⟨rfl, rfl⟩)
      rw [Nat.sub_self, Nat.sub_self] at q
      exact q
    refine wpAnyH_ready (rs := [6]) (by kernel_rfl) (by simp) ?_
    refine AllReadyH.cons (o := { dst := some 26, op := Op.call { callee := Callee.builtin Builtin.append, args := #[Operand.tmp 22, Operand.tmp 25], argTypes := #[31, 31] }, type := 31, pos := "slices.go:232", after := #[{ on := 2, ground := Ground.data }, { on := 5, ground := Ground.data }], guard := none }) rfl (fun K hK => ?_) AllReadyH.nil
    refine step_append_run rfl _ _ _ rfl _ _ _ w1 rfl rfl hA1 ?_
    refine hK.out _ _ trivial (fun hHeld => ?_)
    clear hK K
    try simp only [Act.put, List.setIfInBounds_toArray, List.set_cons_zero, List.set_cons_succ]
    refine kT 7 ?_
    go_frame
    refine wpAnyH_done (by kernel_rfl) ?_ _
    refine NoPanic.normal ?_
    clear hHeld hA hA1
    go_wp2_with (at_builtin; refine wpList_clear_run rfl _ _ rfl _ w2 rfl hC ?_)
    go_ret
    exact ⟨rfl, HFIN.out⟩
  · have hck : k + 1 < c := by omega
    have j1 : c - (k + 1) ≠ 0 := by omega
    refine wp_region_noPanic ?_
    refine wp_region_held_drew (S := fun _ => True) (by kernel_rfl) (trivial) (fun hHeld => ?_)
    refine kT 0 ?_
    go_frame
    refine kT 1 ?_
    go_frame
    refine kT 2 ?_
    go_frame
    refine kT 3 ?_
    go_frame
    refine kT 4 ?_
    go_frame
    refine kT 5 ?_
    go_frame
    have hA1 := hA ⟨g, (k + 1) * 4, none⟩ (.inl rfl)
    refine wpAnyH_ready (rs := [6]) (by kernel_rfl) (by simp) ?_
    refine AllReadyH.cons (o := { dst := some 26, op := Op.call { callee := Callee.builtin Builtin.append, args := #[Operand.tmp 22, Operand.tmp 25], argTypes := #[31, 31] }, type := 31, pos := "slices.go:232", after := #[{ on := 2, ground := Ground.data }, { on := 5, ground := Ground.data }], guard := none }) rfl (fun K hK => ?_) AllReadyH.nil
    refine step_append_run rfl _ _ _ rfl _ _ _ w1 rfl rfl hA1 ?_
    refine hK.out _ _ trivial (fun hHeld => ?_)
    clear hK K
    try simp only [Act.put, List.setIfInBounds_toArray, List.set_cons_zero, List.set_cons_succ]
    refine kT 7 ?_
    go_frame
    refine wpAnyH_done (by kernel_rfl) ?_ _
    refine NoPanic.normal ?_
    clear hHeld hA hA1
    go_wp2_with (at_builtin; refine wpList_clear_run rfl _ _ rfl _ w2 rfl hC ?_)
    go_ret
    exact ⟨rfl, HFIN.out⟩

set_option maxRecDepth 100000 in
set_option maxHeartbeats 2000000 in
theorem deleteTmb_any (base : Nat) (A : Option Addr) (c : Nat) (xs : List GTmb) (k : Nat) (w : World) (h : OwnSl GTmb.vals 2 108 base w (.slice A xs.length c) xs) (hk : k < xs.length) (hl : xs.length ≤ 1048576) :
    Calls Tryz.prog 125 #[.slice A xs.length c, .int .i64 (k : Int), .int .i64 ((k : Int) + 1)] w fun e w' => e = .returned (.slice A (xs.eraseIdx k).length c) ∧ OwnSl GTmb.vals 2 108 base w' (.slice A (xs.eraseIdx k).length c) (xs.eraseIdx k) ∧ w.grownBy w' (blk A) := by
  obtain ⟨g, rfl, hnc, hcm⟩ := own_addr h (by omega)
  obtain ⟨n, hn⟩ : ∃ n, xs.length = n + 1 := ⟨xs.length - 1, by omega⟩
  have hle : (xs.eraseIdx k).length = n := by rw [List.length_eraseIdx_of_lt hk, hn]; rfl
  have hld : (xs.drop (k + 1)).length = n - k := by rw [List.length_drop]; omega
  obtain ⟨i0, hi0, hz0, hz1, hz2⟩ := info_parts infoTmb
  have hof : ∀ u ∈ (xs.drop (k + 1)).flatMap GTmb.vals, u.oneCell' = true := fun u hu => by obtain ⟨o, _, hu⟩ := List.mem_flatMap.1 hu; exact tmb_oneC o u hu
  have hown : w.drew.ownsRow base 108 2 (.slice (some ⟨g, 0, none⟩) k c) k ((xs.take k).flatMap GTmb.vals) := World.ownsRow.drew (own_take (f := GTmb.vals) (m := 2) (fun _ => rfl) h (show k ≤ xs.length from Nat.le_of_lt hk))
  have hcells := row_cells (f := GTmb.vals) (m := 2) (fun _ => rfl) (show OwnSl GTmb.vals 2 108 base w.drew (.slice (some ⟨g, 0, none⟩) xs.length c) xs from World.ownsRow.drew h) (k + 1)
  have happ : ∃ w1, (∀ a, (a = (⟨g, (k + 1) * 2, none⟩ : Addr) ∨ (n = k ∧ a = ⟨g, 0, none⟩)) → (Builtin.append_ #[32, 32] 32 #[.slice (some ⟨g, 0, none⟩) k c, .slice (some a) (n - k) (c - (k + 1))]).run Tryz.prog w.drew = .ok (.slice (some ⟨g, 0, none⟩) n c) w1) ∧ w1.ownsRow base 108 2 (.slice (some ⟨g, 0, none⟩) n c) n ((xs.eraseIdx k).flatMap GTmb.vals) ∧ w.drew.grownBy w1 (some g) := by
    have hlen : ((xs.drop (k + 1)).flatMap GTmb.vals).length = (n - k) * 2 := by rw [flat_length GTmb.vals 2 (fun _ => rfl), hld]
    have hadd : ∀ j, (⟨g, (k + 1) * 2, none⟩ : Addr).add j = ⟨g, (k + 1) * 2 + j, none⟩ := fun j => addA _ _ _
    obtain ⟨w1, hr, ho, hg⟩ := run_append_fits (P := Tryz.prog) w.drew base 32 32 108 i0 2 Tryz.underlying32 hi0 hz1 g k c _ hown ⟨g, (k + 1) * 2, none⟩ (n - k) (c - (k + 1)) ((xs.drop (k + 1)).flatMap GTmb.vals) hlen (fun j u hj => by rw [hadd]; exact hcells j u hj) hof (by omega)
    have ek : k + (n - k) = n := by omega
    rw [ek] at hr ho
    rw [erase_take, List.flatMap_append]
    refine ⟨w1, fun a ha => ?_, ho, hg⟩
    rcases ha with rfl | ⟨rfl, rfl⟩
    · exact hr
    · rcases hown.2 with ⟨h', _⟩ | ⟨g', cap', cur, h', _, hgc, _, _, hcs, _⟩
      · simp at h'
      · simp only [Value.slice.injEq, Option.some.injEq, Addr.mk.injEq, and_true, true_and] at h'
        obtain ⟨rfl, rfl⟩ := h'
        have hfit : n * i0.size + ([] : List Value).length ≤ cur.size := by rw [hz1, hcs]; simp; exact Nat.mul_le_mul_right _ (by omega)
        have r1 := run_append_room (P := Tryz.prog) w.drew 32 32 108 i0 Tryz.underlying32 hi0 g n c cur hgc ⟨g, (n + 1) * 2, none⟩ (n - n) (c - (n + 1)) [] (by simp) (by simp) (by simp) (by omega) hfit
        have r2 := run_append_room (P := Tryz.prog) w.drew 32 32 108 i0 Tryz.underlying32 hi0 g n c cur hgc ⟨g, 0, none⟩ (n - n) (c - (n + 1)) [] (by simp) (by simp) (by simp) (by omega) hfit
        rw [r2, ← r1]
        exact hr
  obtain ⟨w1, hA, ho1, hg1⟩ := happ
  have hzv : (zeroValue 108).run Tryz.prog w1 = .ok (.agg #[.int .i64 0, .string ⟨#[]⟩]) w1 := by kernel_rfl
  have hC := fun ty => run_clear_one (P := Tryz.prog) w1 32 108 ty (.agg #[.int .i64 0, .string ⟨#[]⟩]) 2 Tryz.underlying32 hzv rfl (by intro u hu; simp [Value.cells] at hu; rcases hu with rfl | rfl <;> rfl) g (n * 2) (c - n) (fun j hj => row_cell ho1 (by have : (n + 1) * 2 ≤ c * 2 := Nat.mul_le_mul_right _ (by omega); rw [Nat.add_mul] at this; omega)) (fun j hj => World.ownsRow.frozenAt ho1 _)
  obtain ⟨ho2, hg2⟩ := row_pastS (Value.agg #[.int .i64 0, .string ⟨#[]⟩]).cells.toList (n * 2) w1 ho1 (Nat.le_refl _)
  have HFIN : Hid (OwnSl GTmb.vals 2 108 base (w1.setCells g (n * 2) (Value.agg #[.int .i64 0, .string ⟨#[]⟩]).cells.toList) (.slice (some ⟨g, 0, none⟩) n c) (xs.eraseIdx k) ∧ w.grownBy (w1.setCells g (n * 2) (Value.agg #[.int .i64 0, .string ⟨#[]⟩]).cells.toList) (some g)) := Lib.hid ⟨by unfold OwnSl; rw [hle]; exact ho2, grown_trans (show w.grownBy w1 (some g) from ⟨hg1.os, hg1.tape, hg1.output, hg1.size, hg1.block⟩) hg2⟩
  rw [hle]
  clear ho1 ho2 hg1 hg2 hzv hof hown hcells h hld hle
  generalize w1.setCells g (n * 2) (Value.agg #[.int .i64 0, .string ⟨#[]⟩]).cells.toList = w2 at *
  rw [hn] at hk hl hnc ⊢
  clear hn
  have i1 : (0 : Int) ≤ (k : Int) + 1 := by omega
  have i2 : (k : Int) ≤ (k : Int) + 1 := by omega
  have i3 : (k : Int) + 1 ≤ (n : Int) + 1 := by omega
  have i4 : n + 1 ≤ c := hnc
  have i5 : ((k : Int) == (k : Int) + 1) = false := beq_false_of_ne (by omega)
  have i6 : (n : Int) + 1 ≤ (c : Int) := by omega
  have i7 : k ≤ c := by omega
  have i8 : (k : Int) ≤ (c : Int) := by omega
  go_enter Tryz.func125, Tryz.ntmps125
  go_upto_region 5 with fail
  by_cases hc : c = k + 1
  · obtain rfl : n = k := by omega
    subst hc
    simp only [show n + 1 - n = 1 by omega] at hC
    have j1 : n + 1 - (n + 1) = 0 := by omega
    refine wp_region_noPanic ?_
    refine wp_region_held_drew (S := fun _ => True) (by kernel_rfl) (trivial) (fun hHeld => ?_)
    refine kT 0 ?_
    go_frame
    refine kT 1 ?_
    go_frame
    refine kT 2 ?_
    go_frame
    refine kT 3 ?_
    go_frame
    refine kT 4 ?_
    go_frame
    refine kT 5 ?_
    go_frame
    have hA1 : (Builtin.append_ #[32, 32] 32 #[.slice (some ⟨g, 0, none⟩) n (n + 1), .slice (some ⟨g, 0, none⟩) 0 0]).run Tryz.prog w.drew = .ok (.slice (some ⟨g, 0, none⟩) n (n + 1)) w1 := by
      have q := hA ⟨g, 0, none⟩ (.inr ⟨rfl, rfl⟩)
      rw [Nat.sub_self, Nat.sub_self] at q
      exact q
    refine wpAnyH_ready (rs := [6]) (by kernel_rfl) (by simp) ?_
    refine AllReadyH.cons (o := { dst := some 26, op := Op.call { callee := Callee.builtin Builtin.append, args := #[Operand.tmp 22, Operand.tmp 25], argTypes := #[32, 32] }, type := 32, pos := "slices.go:232", after := #[{ on := 2, ground := Ground.data }, { on := 5, ground := Ground.data }], guard := none }) rfl (fun K hK => ?_) AllReadyH.nil
    refine step_append_run rfl _ _ _ rfl _ _ _ w1 rfl rfl hA1 ?_
    refine hK.out _ _ trivial (fun hHeld => ?_)
    clear hK K
    try simp only [Act.put, List.setIfInBounds_toArray, List.set_cons_zero, List.set_cons_succ]
    refine kT 7 ?_
    go_frame
    refine wpAnyH_done (by kernel_rfl) ?_ _
    refine NoPanic.normal ?_
    clear hHeld hA hA1
    go_wp2_with (at_builtin; refine wpList_clear_run rfl _ _ rfl _ w2 rfl hC ?_)
    go_ret
    exact ⟨rfl, HFIN.out⟩
  · have hck : k + 1 < c := by omega
    have j1 : c - (k + 1) ≠ 0 := by omega
    refine wp_region_noPanic ?_
    refine wp_region_held_drew (S := fun _ => True) (by kernel_rfl) (trivial) (fun hHeld => ?_)
    refine kT 0 ?_
    go_frame
    refine kT 1 ?_
    go_frame
    refine kT 2 ?_
    go_frame
    refine kT 3 ?_
    go_frame
    refine kT 4 ?_
    go_frame
    refine kT 5 ?_
    go_frame
    have hA1 := hA ⟨g, (k + 1) * 2, none⟩ (.inl rfl)
    refine wpAnyH_ready (rs := [6]) (by kernel_rfl) (by simp) ?_
    refine AllReadyH.cons (o := { dst := some 26, op := Op.call { callee := Callee.builtin Builtin.append, args := #[Operand.tmp 22, Operand.tmp 25], argTypes := #[32, 32] }, type := 32, pos := "slices.go:232", after := #[{ on := 2, ground := Ground.data }, { on := 5, ground := Ground.data }], guard := none }) rfl (fun K hK => ?_) AllReadyH.nil
    refine step_append_run rfl _ _ _ rfl _ _ _ w1 rfl rfl hA1 ?_
    refine hK.out _ _ trivial (fun hHeld => ?_)
    clear hK K
    try simp only [Act.put, List.setIfInBounds_toArray, List.set_cons_zero, List.set_cons_succ]
    refine kT 7 ?_
    go_frame
    refine wpAnyH_done (by kernel_rfl) ?_ _
    refine NoPanic.normal ?_
    clear hHeld hA hA1
    go_wp2_with (at_builtin; refine wpList_clear_run rfl _ _ rfl _ w2 rfl hC ?_)
    go_ret
    exact ⟨rfl, HFIN.out⟩

end Go.Proofs.YtpfanmcjlfdaiaaGreatDoorR
