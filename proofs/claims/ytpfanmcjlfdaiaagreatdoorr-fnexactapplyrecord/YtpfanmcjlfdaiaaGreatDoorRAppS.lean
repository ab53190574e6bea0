/-
  The law on append to a slice of the call's own, as one step of a region of many orders; whatever the elements. No Go text is walked here.
-/
import Derived.Test.YtpfanmcjlfdaiaaGreatDoorRAppG
import Derived.Deep.RegionHeld3
namespace Go.Proofs.YtpfanmcjlfdaiaaGreatDoorR
open Go.RowKit
set_option linter.unusedVariables false

theorem run_append_sl {α : Type} (f : α → List Value) (m bytes : Nat) (hf : ∀ x, (f x).length = m) (hone : ∀ x, ∀ u ∈ f x, u.oneCell' = true) {P : Program} {w : World}
    (t e ty : TypeId) (z : Value) (hinfo : (P.info? e).map (fun i => (i.zero, i.size, i.bytes)) = some (some z, m, bytes)) (hzs : z.cells.size = m) (hm : 0 < m) (ht : P.underlying t = some (.slice e))
    (base : Nat) (xs ys : List α) (v : Value) (hown : OwnSl f m e base w v xs) (A : Option Addr) (c B : Nat) (hys : Sl f m w B A ys)
    (hl : xs.length + ys.length ≤ maxLen) (hby : (xs.length + ys.length) * bytes ≤ 140737488355328) (hbase : base ≤ w.heap.size) :
    ∃ v' w', (Builtin.append_ #[t, t] ty #[v, .slice A ys.length c]).run P w = .ok v' w' ∧ OwnSl f m e base w' v' (xs ++ ys) ∧ w.grownBy w' v.ownBlock := by
  obtain ⟨i0, hi0, hz0, hz1, hz2⟩ := info_parts hinfo
  have go : ∀ ad news, news.length = ys.length * m → (∀ j u, news[j]? = some u → w.cell? (Addr.add ad j) = some u) → news = ys.flatMap f → A = some ad → ∃ v' w', (Builtin.append_ #[t, t] ty #[v, .slice A ys.length c]).run P w = .ok v' w' ∧ OwnSl f m e base w' v' (xs ++ ys) ∧ w.grownBy w' v.ownBlock := by
    rintro ad news hnl hc rfl rfl
    obtain ⟨v', w', h0, h1, h2, _, _⟩ := run_append_own_at (P := P) w base t ty e i0 _ m bytes ht hi0 hz0 hz1 hz2 hzs hm v xs.length (xs.flatMap f) hown ad ys.length c (ys.flatMap f) hnl hc (by
      intro u hu
      obtain ⟨o, _, hu⟩ := List.mem_flatMap.1 hu
      exact hone o u hu) hl hby hbase
    refine ⟨v', w', h0, ?_, h2⟩
    unfold OwnSl
    rw [List.length_append, List.flatMap_append]
    exact h1
  by_cases hy : ys = []
  · subst hy
    cases A with
    | none => exact ⟨v, w, run_append_none base c t ty e i0 m ht hi0 v xs.length (xs.flatMap f) hown, by rw [List.append_nil]; exact hown, ⟨rfl, rfl, rfl, Nat.le_refl _, fun _ _ _ => rfl⟩⟩
    | some ad => exact go ad [] (by simp) (by simp) rfl rfl
  · obtain ⟨b, off, e, _, hc⟩ := hys hy
    exact go ⟨b, off, none⟩ _ (flat_length f m hf ys) (flat_read hf hm hc) rfl e

theorem step_append_sl {α : Type} (f : α → List Value) (m bytes : Nat) (hf : ∀ x, (f x).length = m) (hone : ∀ x, ∀ u ∈ f x, u.oneCell' = true) {P : Program} {w : World} {ops : Array Oper} {o : Oper} {a : Act} {K : Act → World → Prop} {Q : Exit → Act → World → Prop} {E : Prop}
    (t e : TypeId) (z : Value) (hinfo : (P.info? e).map (fun i => (i.zero, i.size, i.bytes)) = some (some z, m, bytes)) (hzs : z.cells.size = m) (hm : 0 < m) (ht : P.underlying t = some (.slice e))
    (hgd : o.guard = none) (s x : Operand) (ho : o.op = .call { callee := .builtin .append, args := #[s, x], argTypes := #[t, t] })
    (base : Nat) (xs ys : List α) (v : Value) (hs : a.eval s = v) (hown : OwnSl f m e base w v xs) (A : Option Addr) (c B : Nat) (hx : a.eval x = .slice A ys.length c) (hys : Sl f m w B A ys)
    (hl : xs.length + ys.length ≤ maxLen) (hby : (xs.length + ys.length) * bytes ≤ 140737488355328) (hbase : base ≤ w.heap.size)
    (h : ∀ v' w', OwnSl f m e base w' v' (xs ++ ys) → w.grownBy w' v.ownBlock → K (a.put o.dst v') w') :
    if Region.wanted o (yielded ops a.tmps) = true then Oper.wp P o a w K Q else E := by
  have hw : Region.wanted o (yielded ops a.tmps) = true := by simp [Region.wanted, hgd]
  rw [if_pos hw]
  obtain ⟨v', w', hr, h1, h2⟩ := run_append_sl f m bytes hf hone (P := P) (w := w) t e o.type z hinfo hzs hm ht base xs ys v hown A c B hys hl hby hbase
  unfold Oper.wp
  simp [execOp, ho, resolve, invoke, builtin, hs, hx, hr, Result.andThen]
  exact h v' w' h1 h2

theorem run_append_sl2 {α : Type} (f : α → List Value) (m bytes : Nat) (hf : ∀ x, (f x).length = m) (hone : ∀ x, ∀ u ∈ f x, u.oneCell' = true) {P : Program} {w : World}
    (t e ty : TypeId) (z : Value) (hinfo : (P.info? e).map (fun i => (i.zero, i.size, i.bytes)) = some (some z, m, bytes)) (hzs : z.cells.size = m) (hm : 0 < m) (ht : P.underlying t = some (.slice e))
    (base : Nat) (xs ys : List α) (v : Value) (hown : OwnSl f m e base w v xs) (A : Option Addr) (c B : Nat) (hys : Sl f m w B A ys)
    (hl : xs.length + ys.length ≤ maxLen) (hby : (xs.length + ys.length) * bytes ≤ 140737488355328) (hbase : base ≤ w.heap.size) :
    ∃ v' w', (Builtin.append_ #[t, t] ty #[v, .slice A ys.length c]).run P w = .ok v' w' ∧ OwnSl f m e base w' v' (xs ++ ys) ∧ w.grownBy w' v.ownBlock ∧ (v'.ownBlock = v.ownBlock ∨ v'.ownBlock = some w.heap.size) := by
  obtain ⟨i0, hi0, hz0, hz1, hz2⟩ := info_parts hinfo
  have go : ∀ ad news, news.length = ys.length * m → (∀ j u, news[j]? = some u → w.cell? (Addr.add ad j) = some u) → news = ys.flatMap f → A = some ad → ∃ v' w', (Builtin.append_ #[t, t] ty #[v, .slice A ys.length c]).run P w = .ok v' w' ∧ OwnSl f m e base w' v' (xs ++ ys) ∧ w.grownBy w' v.ownBlock ∧ (v'.ownBlock = v.ownBlock ∨ v'.ownBlock = some w.heap.size) := by
    rintro ad news hnl hc rfl rfl
    obtain ⟨v', w', h0, h1, h2, _, h4⟩ := run_append_own_at (P := P) w base t ty e i0 _ m bytes ht hi0 hz0 hz1 hz2 hzs hm v xs.length (xs.flatMap f) hown ad ys.length c (ys.flatMap f) hnl hc (by
      intro u hu
      obtain ⟨o, _, hu⟩ := List.mem_flatMap.1 hu
      exact hone o u hu) hl hby hbase
    refine ⟨v', w', h0, ?_, h2, h4⟩
    unfold OwnSl
    rw [List.length_append, List.flatMap_append]
    exact h1
  by_cases hy : ys = []
  · subst hy
    cases A with
    | none => exact ⟨v, w, run_append_none base c t ty e i0 m ht hi0 v xs.length (xs.flatMap f) hown, by rw [List.append_nil]; exact hown, ⟨rfl, rfl, rfl, Nat.le_refl _, fun _ _ _ => rfl⟩, Or.inl rfl⟩
    | some ad => exact go ad [] (by simp) (by simp) rfl rfl
  · obtain ⟨b, off, e, _, hc⟩ := hys hy
    exact go ⟨b, off, none⟩ _ (flat_length f m hf ys) (flat_read hf hm hc) rfl e

theorem step_append_sl2 {α : Type} (f : α → List Value) (m bytes : Nat) (hf : ∀ x, (f x).length = m) (hone : ∀ x, ∀ u ∈ f x, u.oneCell' = true) {P : Program} {w : World} {ops : Array Oper} {o : Oper} {a : Act} {K : Act → World → Prop} {Q : Exit → Act → World → Prop} {E : Prop}
    (t e : TypeId) (z : Value) (hinfo : (P.info? e).map (fun i => (i.zero, i.size, i.bytes)) = some (some z, m, bytes)) (hzs : z.cells.size = m) (hm : 0 < m) (ht : P.underlying t = some (.slice e))
    (hgd : o.guard = none) (s x : Operand) (ho : o.op = .call { callee := .builtin .append, args := #[s, x], argTypes := #[t, t] })
    (base : Nat) (xs ys : List α) (v : Value) (hs : a.eval s = v) (hown : OwnSl f m e base w v xs) (A : Option Addr) (c B : Nat) (hx : a.eval x = .slice A ys.length c) (hys : Sl f m w B A ys)
    (hl : xs.length + ys.length ≤ maxLen) (hby : (xs.length + ys.length) * bytes ≤ 140737488355328) (hbase : base ≤ w.heap.size)
    (h : ∀ v' w', OwnSl f m e base w' v' (xs ++ ys) → w.grownBy w' v.ownBlock → (v'.ownBlock = v.ownBlock ∨ v'.ownBlock = some w.heap.size) → K (a.put o.dst v') w') :
    if Region.wanted o (yielded ops a.tmps) = true then Oper.wp P o a w K Q else E := by
  have hw : Region.wanted o (yielded ops a.tmps) = true := by simp [Region.wanted, hgd]
  rw [if_pos hw]
  obtain ⟨v', w', hr, h1, h2, h4⟩ := run_append_sl2 f m bytes hf hone (P := P) (w := w) t e o.type z hinfo hzs hm ht base xs ys v hown A c B hys hl hby hbase
  unfold Oper.wp
  simp [execOp, ho, resolve, invoke, builtin, hs, hx, hr, Result.andThen]
  exact h v' w' h1 h2 h4

end Go.Proofs.YtpfanmcjlfdaiaaGreatDoorR
