/-
  The law on append of objects to a slice of the call's own; contract of the model's l01Own.
-/
import Derived.Test.YtpgilbmajbpdkaaClose
import Derived.Laws.AppendOwnNone
namespace Go.Proofs.Ytpgilbmajbpdkaa
open Go.ChangeShapes Go.WideShapes Go.ChangeAt Go.RowKit Go.Maps
set_option linter.unusedVariables false

theorem run_append_nil {P : Program} {w : World} (base c : Nat) (t ty e : TypeId) (i : TypeInfo) (size : Nat) (ht : P.underlying t = some (.slice e)) (hi : P.info? e = some i)
    (v : Value) (n : Nat) (xs : List Value) (hown : w.ownsRow base e size v n xs) : (Builtin.append_ #[t, t] ty #[v, .slice none 0 c]).run P w = .ok v w := by
  rcases hown.2 with ⟨rfl, rfl⟩ | ⟨g, cap, cur, rfl, _, _, hnc, _⟩
  · simp [Builtin.append_, run_underlying ht, sizeOf, typeInfo, hi, Builtin.lenOf, Builtin.firstCells]
  · simp [Builtin.append_, run_underlying ht, sizeOf, typeInfo, hi, Builtin.lenOf, Builtin.firstCells, hnc, storeCells]

theorem flat_cells {w : World} {b off : Nat} {ys : List GObj} (h : ∀ k (h : k < ys.length), Cells w b (off + k * 3) ys[k].vals) : ∀ j u, (ys.flatMap GObj.vals)[j]? = some u → w.cell? ((⟨b, off, none⟩ : Addr).add j) = some u := by
  intro j u hj
  have hlen : (ys.flatMap GObj.vals).length = ys.length * 3 := flat_length GObj.vals 3 vals_length ys
  have hjl : j < ys.length * 3 := by rw [← hlen]; exact (List.getElem?_eq_some_iff.1 hj).1
  have hk : j / 3 < ys.length := by omega
  have h1 := flat_at GObj.vals 3 vals_length ys (j / 3) hk (j % 3) (by omega)
  rw [show j / 3 * 3 + j % 3 = j by omega, hj] at h1
  have h2 := h (j / 3) hk (j % 3) u h1.symm
  have e : (⟨b, off, none⟩ : Addr).add j = ⟨b, off + j, none⟩ := by simp [Addr.add]
  rw [e, show off + j = off + j / 3 * 3 + j % 3 by omega]
  exact h2

theorem wpList_append_objs {w : World} {ops : Array Oper} {rest : List Oper} {o : Oper} {a : Act} {Q : Exit → Act → World → Prop} (hgd : o.guard = none) (s x : Operand)
    (ho : o.op = .call { callee := .builtin .append, args := #[s, x], argTypes := #[23, 23] })
    (base : Nat) (xs ys : List GObj) (v : Value) (hs : a.eval s = v) (hown : OwnSl GObj.vals 3 40 base w v xs) (A : Option Addr) (c B : Nat) (hx : a.eval x = .slice A ys.length c) (hys : ObjsAt w B A ys)
    (hl : xs.length + ys.length ≤ 1000000000) (hbase : base ≤ w.heap.size)
    (h : ∀ v' w', OwnSl GObj.vals 3 40 base w' v' (xs ++ ys) → w.grownBy w' v.ownBlock → wpList Try.prog ops Q rest (a.put o.dst v') w') : wpList Try.prog ops Q (o :: rest) a w := by
  obtain ⟨i0, hi0, hz0, hz1, hz2⟩ := info_parts infoObj
  have key : ∀ (b off : Nat), A = some ⟨b, off, none⟩ → (∀ k (h : k < ys.length), Cells w b (off + k * 3) ys[k].vals) → wpList Try.prog ops Q (o :: rest) a w := by
    rintro b off rfl hc
    refine wpList_append_own_at _ hgd s x 23 ho base 40 i0 _ 3 40 Try.underlying23 hi0 hz0 hz1 hz2 rfl (by omega) v xs.length (xs.flatMap GObj.vals) hs hown ⟨b, off, none⟩ ys.length c (ys.flatMap GObj.vals) hx (flat_length GObj.vals 3 vals_length ys) (flat_cells hc) ?_ (by simp only [maxLen]; omega) (by omega) hbase ?_
    · intro u hu
      obtain ⟨o, _, hu⟩ := List.mem_flatMap.1 hu
      simp [GObj.vals] at hu
      rcases hu with rfl | rfl | rfl <;> rfl
    · intro v' w' h1 h2 _ _
      refine h v' w' ?_ h2
      unfold OwnSl
      rw [List.length_append, List.flatMap_append]
      exact h1
  by_cases hy : ys = []
  · subst hy
    have hrun := fun ty => run_append_nil (P := Try.prog) (w := w) base c 23 ty 40 i0 3 Try.underlying23 hi0 v xs.length (xs.flatMap GObj.vals) hown
    cases A with
    | none =>
      refine wpList_plain hgd fun K hK => ?_
      unfold Oper.wp
      simp only [List.length_nil] at hx
      simp [execOp, ho, resolve, invoke, builtin, hs, hx, hrun, Result.andThen]
      exact hK _ _ (h v w (by rw [List.append_nil]; exact hown) ⟨rfl, rfl, rfl, Nat.le_refl _, fun _ _ _ => rfl⟩)
    | some ad =>
      refine wpList_append_own_at _ hgd s x 23 ho base 40 i0 _ 3 40 Try.underlying23 hi0 hz0 hz1 hz2 rfl (by omega) v xs.length (xs.flatMap GObj.vals) hs hown ad 0 c [] hx rfl (by simp) (by simp) (by simp only [maxLen]; simp at hl; omega) (by simp at hl; omega) hbase ?_
      intro v' w' h1 h2 _ _
      refine h v' w' ?_ h2
      rw [List.append_nil]
      unfold OwnSl
      simpa using h1
  · obtain ⟨b, off, e, _, hc⟩ := hys hy
    exact key b off e hc

set_option maxRecDepth 100000 in
theorem own_any (A : Option Addr) (c : Nat) (next : Int) (xs : List GObj) (B : Nat) (w : World) (h : ObjsAt w B A xs) (hB : B ≤ w.heap.size) (hl : xs.length ≤ 400) :
    Calls Try.prog 50 #[.agg #[.slice A xs.length c, .int .i64 next]] w fun e w' => ∃ v, e = .returned v ∧ NewSt xs next w v w' := by
  have H := Lib.hid h; clear h
  obtain ⟨W, hW⟩ : ∃ W, W = ((w.alloc (.cells #[.slice A xs.length c, .int .i64 next] 25)).alloc (.cells #[.slice none 0 0, .int .i64 0] 25)).alloc (.cells #[] 40) := ⟨_, rfl⟩
  have t0 : Two W w.heap.size (.slice A xs.length c) (.int .i64 next) := by rw [hW]; exact ((Two.new w _ _ _).alloc (by simp) _).alloc (by simp; omega) _
  have t1 : Two W (w.heap.size + 1) (.slice none 0 0) (.int .i64 0) := by
    rw [hW]
    have := (Two.new (w.alloc (.cells #[.slice A xs.length c, .int .i64 next] 25)) (.slice none 0 0) (.int .i64 0) 25).alloc (by simp) (.cells #[] 40)
    simpa using this
  have f0 : ∀ b i, w.heap.size ≤ b → b < w.heap.size + 2 → W.frozen? ⟨b, i, none⟩ = false := fun b i h1 h2 => by
    rw [hW]
    have hb : b = w.heap.size ∨ b = w.heap.size + 1 := by omega
    rcases hb with rfl | rfl
    · have := free_alloc w #[.slice A xs.length c, .int .i64 next] 25 0 w.heap.size (by simp [blk]) i
      exact (((Below.refl _ _).alloc (Nat.le_refl _) _ |>.alloc (by simp) _).frozen (p := ⟨w.heap.size, i, none⟩) (by simp)).trans this
    · have := free_alloc (w.alloc (.cells #[.slice A xs.length c, .int .i64 next] 25)) #[.slice none 0 0, .int .i64 0] 25 0 (w.heap.size + 1) (by simp [blk]) i
      exact (((Below.refl _ _).alloc (Nat.le_refl _) _).frozen (p := ⟨w.heap.size + 1, i, none⟩) (by simp)).trans this
  have b0 : Below w.heap.size w W := by rw [hW]; exact bal (bal (bal (Below.refl _ _) _) _) _
  have s0 : W.heap.size = w.heap.size + 3 := by rw [hW]; simp
  have o0 : OwnSl GObj.vals 3 40 (w.heap.size + 2) W (.slice (some ⟨w.heap.size + 1 + 1, 0, none⟩) 0 0) [] := by
    rw [hW]
    have := World.ownsRow_lit (base := w.heap.size + 2) (e := 40) (size := 3) ((w.alloc (.cells #[.slice A xs.length c, .int .i64 next] 25)).alloc (.cells #[.slice none 0 0, .int .i64 0] 25)) #[] 0 (by simp) (by simp [maxLen]) (by simp)
    simpa [OwnSl] using this
  have T0 := Lib.hid t0; clear t0
  have T1 := Lib.hid t1; clear t1
  have F0 := Lib.hid f0; clear f0
  have O0 := Lib.hid o0; clear o0
  have HW := Lib.hid hW; clear hW
  go_enter Try.func50, Try.ntmps50
  go_wp2_with (at_builtin; rw [← HW.out]; refine wpList_append_objs rfl _ _ rfl (w.heap.size + 2) [] xs (.slice (some ⟨w.heap.size + 1 + 1, 0, none⟩) 0 0) rfl O0.out A c B rfl (Sl.below H.out b0 hB) (by simp; omega) (by omega) ?_; intro v' w1 hO hg; rw [List.nil_append] at hO; obtain ⟨A', c', rfl⟩ := hO.form; have HO := Lib.hid hO; clear hO; have hb1 : Below (w.heap.size + 2) W w1 := below_of_grown hg (by omega) (fun g e => (World.ownsRow.lt O0.out g e).1); clear hg; obtain ⟨t00, t01⟩ := T0.out.below hb1 (by omega); obtain ⟨t10, t11⟩ := T1.out.below hb1 (by omega); have f00 := (hb1.frozen (p := ⟨w.heap.size, 0, none⟩) (by show w.heap.size < w.heap.size + 2; omega)).trans (F0.out _ 0 (by omega) (by omega)); have f10 := (hb1.frozen (p := ⟨w.heap.size + 1, 0, none⟩) (by show w.heap.size + 1 < w.heap.size + 2; omega)).trans (F0.out _ 0 (by omega) (by omega)); have f11 := (hb1.frozen (p := ⟨w.heap.size + 1, 1, none⟩) (by show w.heap.size + 1 < w.heap.size + 2; omega)).trans (F0.out _ 1 (by omega) (by omega)))
  have tF := (((T1.out.below hb1 (by omega)).far (p := ⟨w.heap.size, 0, none⟩) (by show w.heap.size + 1 ≠ w.heap.size; omega) (.slice A' xs.length c')).set0 (.slice A' xs.length c')).set1 (.int .i64 next)
  have hOF := ((HO.out.far (p := ⟨w.heap.size, 0, none⟩) (by show w.heap.size < w.heap.size + 2; omega) (.slice A' xs.length c')).far (p := ⟨w.heap.size + 1, 0, none⟩) (by show w.heap.size + 1 < w.heap.size + 2; omega) (.slice A' xs.length c')).far (p := ⟨w.heap.size + 1, 1, none⟩) (by show w.heap.size + 1 < w.heap.size + 2; omega) (.int .i64 next)
  have bF := (((b0.trans (hb1.mono (by omega))).setCell (p := ⟨w.heap.size, 0, none⟩) (by show w.heap.size ≤ w.heap.size; omega) (.slice A' xs.length c')).setCell (p := ⟨w.heap.size + 1, 0, none⟩) (by show w.heap.size ≤ w.heap.size + 1; omega) (.slice A' xs.length c')).setCell (p := ⟨w.heap.size + 1, 1, none⟩) (by show w.heap.size ≤ w.heap.size + 1; omega) (.int .i64 next)
  obtain ⟨hsl, hfr, hbl, hc⟩ := OwnSl.sl hOF vals_length
  clear t00 t01 t10 t11 f00 f10 f11 hOF
  generalize ((w1.setCell ⟨w.heap.size, 0, none⟩ (.slice A' xs.length c')).setCell ⟨w.heap.size + 1, 0, none⟩ (.slice A' xs.length c')).setCell ⟨w.heap.size + 1, 1, none⟩ (.int .i64 next) = wF at *
  obtain ⟨z0, z1⟩ := tF
  exact bodyPost_ret (v := .agg #[.slice A' xs.length c', .int .i64 next]) (by simp [results, Try.results50, go_sem, z0, z1]) rfl ⟨_, rfl, A', c', rfl, hsl, hfr, fun b e => ⟨by have := (hbl b e).1; omega, (hbl b e).2⟩, hc, bF⟩

end Go.Proofs.Ytpgilbmajbpdkaa
