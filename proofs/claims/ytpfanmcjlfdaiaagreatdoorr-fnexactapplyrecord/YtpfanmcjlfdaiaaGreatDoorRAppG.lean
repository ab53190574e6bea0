/-
  The law on append to a slice of the call's own, whatever its elements. No Go text is walked here.
-/
import Derived.Test.YtpfanmcjlfdaiaaGreatDoorRN1
import Derived.Maps.AppendAt
import Derived.WalkKit
namespace Go.Proofs.YtpfanmcjlfdaiaaGreatDoorR
open Go.RowKit
set_option linter.unusedVariables false

theorem run_append_none {P : Program} {w : World} (base c : Nat) (t ty e : TypeId) (i : TypeInfo) (size : Nat) (ht : P.underlying t = some (.slice e)) (hi : P.info? e = some i)
    (v : Value) (n : Nat) (xs : List Value) (hown : w.ownsRow base e size v n xs) : (Builtin.append_ #[t, t] ty #[v, .slice none 0 c]).run P w = .ok v w := by
  rcases hown.2 with ⟨rfl, rfl⟩ | ⟨g, cap, cur, rfl, _, _, hnc, _⟩
  · simp [Builtin.append_, run_underlying ht, sizeOf, typeInfo, hi, Builtin.lenOf, Builtin.firstCells]
  · simp [Builtin.append_, run_underlying ht, sizeOf, typeInfo, hi, Builtin.lenOf, Builtin.firstCells, hnc, storeCells]

theorem flat_read {α : Type} {f : α → List Value} {m : Nat} (hf : ∀ x, (f x).length = m) (hm : 0 < m) {w : World} {b off : Nat} {ys : List α} (h : ∀ k (h : k < ys.length), Cells w b (off + k * m) (f ys[k])) : ∀ j u, (ys.flatMap f)[j]? = some u → w.cell? ((⟨b, off, none⟩ : Addr).add j) = some u := by
  intro j u hj
  have hlen : (ys.flatMap f).length = ys.length * m := flat_length f m hf ys
  have hjl : j < ys.length * m := by rw [← hlen]; exact (List.getElem?_eq_some_iff.1 hj).1
  have hk : j / m < ys.length := Nat.div_lt_of_lt_mul (by rw [Nat.mul_comm]; exact hjl)
  have hd : j / m * m + j % m = j := by rw [Nat.mul_comm]; exact Nat.div_add_mod j m
  have h1 := flat_at f m hf ys (j / m) hk (j % m) (Nat.mod_lt _ hm)
  rw [hd, hj] at h1
  have h2 := h (j / m) hk (j % m) u h1.symm
  have e : (⟨b, off, none⟩ : Addr).add j = ⟨b, off + j, none⟩ := by simp [Addr.add]
  rw [e, show off + j = off + j / m * m + j % m by omega]
  exact h2

theorem wpList_append_sl {α : Type} (f : α → List Value) (m bytes : Nat) (hf : ∀ x, (f x).length = m) (hone : ∀ x, ∀ u ∈ f x, u.oneCell' = true) {P : Program} {w : World} {ops : Array Oper} {rest : List Oper} {o : Oper} {a : Act} {Q : Exit → Act → World → Prop}
    (t e : TypeId) (z : Value) (hinfo : (P.info? e).map (fun i => (i.zero, i.size, i.bytes)) = some (some z, m, bytes)) (hzs : z.cells.size = m) (hm : 0 < m) (ht : P.underlying t = some (.slice e))
    (hgd : o.guard = none) (s x : Operand) (ho : o.op = .call { callee := .builtin .append, args := #[s, x], argTypes := #[t, t] })
    (base : Nat) (xs ys : List α) (v : Value) (hs : a.eval s = v) (hown : OwnSl f m e base w v xs) (A : Option Addr) (c B : Nat) (hx : a.eval x = .slice A ys.length c) (hys : Sl f m w B A ys)
    (hl : xs.length + ys.length ≤ maxLen) (hby : (xs.length + ys.length) * bytes ≤ 140737488355328) (hbase : base ≤ w.heap.size)
    (h : ∀ v' w', OwnSl f m e base w' v' (xs ++ ys) → w.grownBy w' v.ownBlock → (v'.ownBlock = v.ownBlock ∨ v'.ownBlock = some w.heap.size) → wpList P ops Q rest (a.put o.dst v') w') : wpList P ops Q (o :: rest) a w := by
  obtain ⟨i0, hi0, hz0, hz1, hz2⟩ := info_parts hinfo
  by_cases hy : ys = []
  · subst hy
    have hrun := fun ty => run_append_none (P := P) (w := w) base c t ty e i0 m ht hi0 v xs.length (xs.flatMap f) hown
    cases A with
    | none =>
      refine wpList_plain hgd fun K hK => ?_
      unfold Oper.wp
      simp only [List.length_nil] at hx
      simp [execOp, ho, resolve, invoke, builtin, hs, hx, hrun, Result.andThen]
      exact hK _ _ (h v w (by rw [List.append_nil]; exact hown) ⟨rfl, rfl, rfl, Nat.le_refl _, fun _ _ _ => rfl⟩ (Or.inl rfl))
    | some ad =>
      refine wpList_append_own_at _ hgd s x t ho base e i0 _ m bytes ht hi0 hz0 hz1 hz2 hzs hm v xs.length (xs.flatMap f) hs hown ad 0 c [] hx (by simp) (by simp) (by simp) (by simpa using hl) (by simpa using hby) hbase ?_
      intro v' w' h1 h2 _ h4
      refine h v' w' ?_ h2 h4
      rw [List.append_nil]
      unfold OwnSl
      simpa using h1
  · obtain ⟨b, off, rfl, _, hc⟩ := hys hy
    refine wpList_append_own_at _ hgd s x t ho base e i0 _ m bytes ht hi0 hz0 hz1 hz2 hzs hm v xs.length (xs.flatMap f) hs hown ⟨b, off, none⟩ ys.length c (ys.flatMap f) hx (flat_length f m hf ys) (flat_read hf hm hc) ?_ hl hby hbase ?_
    · intro u hu
      obtain ⟨o, _, hu⟩ := List.mem_flatMap.1 hu
      exact hone o u hu
    · intro v' w' h1 h2 _ h4
      refine h v' w' ?_ h2 h4
      unfold OwnSl
      rw [List.length_append, List.flatMap_append]
      exact h1

/-- an empty slice literal is a slice of the call's own -/
theorem own_empty {α : Type} (f : α → List Value) (m : Nat) (e : TypeId) (w : World) : OwnSl f m e w.heap.size (w.alloc (.cells #[] e)) (.slice (some ⟨w.heap.size, 0, none⟩) 0 0) [] := by
  have := World.ownsRow_lit (base := w.heap.size) (e := e) (size := m) w #[] 0 (Nat.le_refl _) (by simp [maxLen]) (by simp)
  simpa [OwnSl] using this

end Go.Proofs.YtpfanmcjlfdaiaaGreatDoorR
