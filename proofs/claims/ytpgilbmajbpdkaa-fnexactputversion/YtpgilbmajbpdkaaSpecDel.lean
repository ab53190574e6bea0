/-
  Contracts of the model's l01Delete and DeleteVersion.
-/
import Derived.Test.YtpgilbmajbpdkaaDel
namespace Go.Proofs.Ytpgilbmajbpdkaa
open Go.ChangeShapes Go.WideShapes Go.ChangeAt Go.RowKit Go.Maps
set_option linter.unusedVariables false

theorem run_append_objs {w : World} (base : Nat) (ty : TypeId) (xs ys : List GObj) (v : Value) (hown : OwnSl GObj.vals 3 40 base w v xs) (A : Option Addr) (c B : Nat) (hys : ObjsAt w B A ys)
    (hl : xs.length + ys.length ≤ 1000000000) (hbase : base ≤ w.heap.size) :
    ∃ v' w', (Builtin.append_ #[23, 23] ty #[v, .slice A ys.length c]).run Try.prog w = .ok v' w' ∧ OwnSl GObj.vals 3 40 base w' v' (xs ++ ys) ∧ w.grownBy w' v.ownBlock := by
  obtain ⟨i0, hi0, hz0, hz1, hz2⟩ := info_parts infoObj
  have go : ∀ ad news, news.length = ys.length * 3 → (∀ j u, news[j]? = some u → w.cell? (Addr.add ad j) = some u) → news = ys.flatMap GObj.vals → A = some ad → ∃ v' w', (Builtin.append_ #[23, 23] ty #[v, .slice A ys.length c]).run Try.prog w = .ok v' w' ∧ OwnSl GObj.vals 3 40 base w' v' (xs ++ ys) ∧ w.grownBy w' v.ownBlock := by
    rintro ad news hnl hc rfl rfl
    obtain ⟨v', w', h0, h1, h2, _, _⟩ := run_append_own_at (P := Try.prog) w base 23 ty 40 i0 _ 3 40 Try.underlying23 hi0 hz0 hz1 hz2 rfl (by omega) v xs.length (xs.flatMap GObj.vals) hown ad ys.length c (ys.flatMap GObj.vals) hnl hc (by
      intro u hu
      obtain ⟨o, _, hu⟩ := List.mem_flatMap.1 hu
      simp [GObj.vals] at hu
      rcases hu with rfl | rfl | rfl <;> rfl) (by simp only [maxLen]; omega) (by omega) hbase
    refine ⟨v', w', h0, ?_, h2⟩
    unfold OwnSl
    rw [List.length_append, List.flatMap_append]
    exact h1
  by_cases hy : ys = []
  · subst hy
    cases A with
    | none => exact ⟨v, w, run_append_nil base c 23 ty 40 i0 3 Try.underlying23 hi0 v xs.length (xs.flatMap GObj.vals) hown, by rw [List.append_nil]; exact hown, ⟨rfl, rfl, rfl, Nat.le_refl _, fun _ _ _ => rfl⟩⟩
    | some ad => exact go ad [] rfl (by simp) rfl rfl
  · obtain ⟨b, off, e, _, hc⟩ := hys hy
    exact go ⟨b, off, none⟩ _ (flat_length GObj.vals 3 vals_length ys) (flat_cells hc) rfl e

theorem step_append_objs {w : World} {ops : Array Oper} {o : Oper} {a : Act} {K : Act → World → Prop} {Q : Exit → Act → World → Prop} {E : Prop} (hgd : o.guard = none) (s x : Operand)
    (ho : o.op = .call { callee := .builtin .append, args := #[s, x], argTypes := #[23, 23] })
    (base : Nat) (xs ys : List GObj) (v : Value) (hs : a.eval s = v) (hown : OwnSl GObj.vals 3 40 base w v xs) (A : Option Addr) (c B : Nat) (hx : a.eval x = .slice A ys.length c) (hys : ObjsAt w B A ys)
    (hl : xs.length + ys.length ≤ 1000000000) (hbase : base ≤ w.heap.size)
    (h : ∀ v' w', OwnSl GObj.vals 3 40 base w' v' (xs ++ ys) → w.grownBy w' v.ownBlock → K (a.put o.dst v') w') :
    if Region.wanted o (yielded ops a.tmps) = true then Oper.wp Try.prog o a w K Q else E := by
  have hw : Region.wanted o (yielded ops a.tmps) = true := by simp [Region.wanted, hgd]
  rw [if_pos hw]
  obtain ⟨v', w', hr, h1, h2⟩ := run_append_objs base o.type xs ys v hown A c B hys hl hbase
  unfold Oper.wp
  simp [execOp, ho, resolve, invoke, builtin, hs, hx, hr, Result.andThen]
  exact h v' w' h1 h2

theorem ObjsAt.take {w : World} {B : Nat} {A : Option Addr} {xs : List GObj} (h : ObjsAt w B A xs) (k : Nat) : ObjsAt w B A (xs.take k) := by
  intro hn
  obtain ⟨b, off, e, hb, hc⟩ := h (by rintro rfl; simp at hn)
  refine ⟨b, off, e, hb, fun i hi => ?_⟩
  have hi' : i < xs.length := by simp at hi; omega
  rw [List.getElem_take]
  exact hc i hi'

theorem ObjsAt.drop {w : World} {B b off : Nat} {xs : List GObj} (h : ObjsAt w B (some ⟨b, off, none⟩) xs) (k : Nat) : ObjsAt w B (some ⟨b, off + k * 3, none⟩) (xs.drop k) := by
  intro hn
  obtain ⟨b', off', e, hb, hc⟩ := h (by rintro rfl; simp at hn)
  injection e with e
  injection e with e1 e2
  subst e1 e2
  refine ⟨b, off + k * 3, rfl, hb, fun i hi => ?_⟩
  have hi' : k + i < xs.length := by simp at hi; omega
  rw [List.getElem_drop]
  have := hc (k + i) hi'
  rw [Nat.add_mul, ← Nat.add_assoc] at this
  exact this

theorem wrap_nat (n : Nat) (h : n ≤ 1000000) : IntKind.i64.wrap (n : Int) = (n : Int) := by
  simp [IntKind.wrap, IntKind.bits]
  omega

/-- what l01Delete answers -/
def DelS (xs : List GObj) (next : Int) (key : ByteArray) (ver : Int) (w : World) (e : Ending) (w' : World) : Prop :=
  ∃ (L : List GObj) (code : Int) (A : Option Addr) (c : Nat), VerP xs key ver code ∧ (code ≠ 0 → L = xs) ∧ (code = 0 → L = delL xs key) ∧ e = .returned (.tuple #[.agg #[.slice A L.length c, .int .i64 next], .int .i64 code]) ∧ ObjsAt w' w'.heap.size A L ∧ Below w.heap.size w w'

set_option maxRecDepth 100000 in
set_option maxHeartbeats 1000000 in
theorem specDelete_any (A : Option Addr) (c : Nat) (next : Int) (xs : List GObj) (key : ByteArray) (ver : Int) (B : Nat) (w : World) (h : ObjsAt w B A xs) (hB : B ≤ w.heap.size) (hl : xs.length ≤ 300) (hc : xs.length ≤ c) (hr : Rise xs) :
    Calls Try.prog 72 #[.agg #[.slice A xs.length c, .int .i64 next], .string key, .int .i64 ver] w (DelS xs next key ver w) := by
  have H := Lib.hid h; clear h
  have HR := Lib.hid hr; clear hr
  go_enter Try.func72, Try.ntmps72
  go_wp2_with fail
  obtain ⟨W, hW⟩ : ∃ W, W = (w.alloc (.cells #[.slice A xs.length c, .int .i64 next] 25)).alloc (.cells #[.slice none 0 0, .int .i64 0] 25) := ⟨_, rfl⟩
  have t0 : Two W w.heap.size (.slice A xs.length c) (.int .i64 next) := by rw [hW]; exact (Two.new w _ _ _).alloc (by simp) _
  have t1 : Two W (w.heap.size + 1) (.slice none 0 0) (.int .i64 0) := by
    rw [hW]
    have := Two.new (w.alloc (.cells #[.slice A xs.length c, .int .i64 next] 25)) (.slice none 0 0) (.int .i64 0) 25
    simpa using this
  have f0 : ∀ b i, w.heap.size ≤ b → b < w.heap.size + 2 → W.frozen? ⟨b, i, none⟩ = false := fun b i h1 h2 => by
    rw [hW]
    have hb : b = w.heap.size ∨ b = w.heap.size + 1 := by omega
    rcases hb with rfl | rfl
    · have := free_alloc w #[.slice A xs.length c, .int .i64 next] 25 0 w.heap.size (by simp [blk]) i
      exact (((Below.refl _ _).alloc (Nat.le_refl _) _).frozen (p := ⟨w.heap.size, i, none⟩) (by simp)).trans this
    · exact free_alloc (w.alloc (.cells #[.slice A xs.length c, .int .i64 next] 25)) #[.slice none 0 0, .int .i64 0] 25 0 (w.heap.size + 1) (by simp [blk]) i
  have b0 : Below w.heap.size w W := by rw [hW]; exact bal (bal (Below.refl _ _) _) _
  have s0 : W.heap.size = w.heap.size + 2 := by rw [hW]; simp
  rw [← hW]
  clear hW
  have T0 := Lib.hid t0; clear t0
  have T1 := Lib.hid t1; clear t1
  have F0 := Lib.hid f0; clear f0
  generalize hx : w.heap.size = x at *
  have Hx := Lib.hid hx; clear hx
  refine (find_any A c next xs key B W (Sl.below H.out b0 hB) (by omega) (by omega)).mono ?_
  rintro e w1 ⟨v, hv, rfl, hb1⟩
  have b1 : Below x w w1 := b0.trans (hb1.mono (by omega))
  have HW := Lib.hid (Sl.below H.out b1 hB); clear H
  have T01 := T0.out.below hb1 (by omega)
  have T11 := Lib.hid (T1.out.below hb1 (by omega))
  have F01 := Lib.hid (show ∀ b i, x ≤ b → b < x + 2 → w1.frozen? ⟨b, i, none⟩ = false from fun b i h1 h2 => (hb1.frozen (p := ⟨b, i, none⟩) (by show b < W.heap.size; omega)).trans (F0.out b i h1 h2))
  have s1 : x + 2 ≤ w1.heap.size := by have := hb1.size; omega
  clear hb1 b0 T0 T1 F0
  obtain ⟨t00, t01⟩ := T01
  have hend : ∀ code, VerP xs key ver code → code ≠ 0 → Hid (∀ wF, wF = (w1.setCell ⟨x + 1, 0, none⟩ (.slice A xs.length c)).setCell ⟨x + 1, 1, none⟩ (.int .i64 next) → Two wF (x + 1) (.slice A xs.length c) (.int .i64 next) ∧ DelS xs next key ver w (.returned (.tuple #[.agg #[.slice A xs.length c, .int .i64 next], .int .i64 code])) wF) := fun code hv hz => Lib.hid (by
    rintro wF rfl
    refine ⟨(T11.out.set0 _).set1 _, xs, code, A, c, hv, fun _ => rfl, fun h => absurd h hz, rfl, ?_, ?_⟩
    · rw [size_setCell, size_setCell]
      refine Sl.more (B := B) ?_ (by omega)
      refine HW.out.keep fun b i e hlt => ?_
      rw [World.cell?_setCell_other _ _ _ _ (fun e => by injection e with e; omega), World.cell?_setCell_other _ _ _ _ (fun e => by injection e with e; omega)]
    · rw [Hx.out]
      exact (b1.setCell (p := ⟨x + 1, 0, none⟩) (by show x ≤ x + 1; omega) _).setCell (p := ⟨x + 1, 1, none⟩) (by show x ≤ x + 1; omega) _)
  obtain ⟨t10, t11⟩ := T11.out
  have f10 := F01.out (x + 1) 0 (by omega) (by omega)
  have f11 := F01.out (x + 1) 1 (by omega) (by omega)
  rcases look_of_find hv with ⟨hneg, hlo⟩ | ⟨i, hi, rfl, hlo⟩
  · have d2 : decide (v < 0) = true := by simpa using hneg
    have HE := hend 5 (.inl ⟨hlo, rfl⟩) (by omega)
    clear hend hv hlo
    go_wp2
    obtain ⟨⟨z0, z1⟩, hd⟩ := HE.out _ rfl
    clear t10 t11 f10 f11
    generalize (w1.setCell ⟨x + 1, 0, none⟩ (.slice A xs.length c)).setCell ⟨x + 1, 1, none⟩ (.int .i64 next) = wF at *
    exact bodyPost_ret (v := .tuple #[.agg #[.slice A xs.length c, .int .i64 next], .int .i64 5]) (by simp [results, Try.results72, go_sem, z0, z1]) rfl hd
  · have d2 : decide ((i : Int) < 0) = false := by simp
    obtain ⟨b, off, rfl, hbB, p0, p1, p2⟩ := ObjsAt.obj HW.out hi
    by_cases hve : xs[i].ver = ver
    · have d3 : (xs[i].ver == ver) = true := by simpa using hve
      have hke : xs[i].key = key := by simpa using List.find?_some hlo
      have hvp : VerP xs key ver 0 := .inr (.inr ⟨xs[i], hlo, hve, rfl⟩)
      have hdel := delL_at key xs HR.out i hi hke
      have HDL := Lib.hid hdel; clear hdel
      have HVP := Lib.hid hvp; clear hvp hend hv hlo hve hke
      have htl : (xs.take i).length = i := by simp; omega
      have hdl : (xs.drop (i + 1)).length = xs.length - (i + 1) := by simp
      have OT := Lib.hid (show ObjsAt (w1.drew.alloc (.cells #[] 40)) B (some ⟨b, off, none⟩) (xs.take i) from Sl.below (ObjsAt.take HW.out i) (show Below w1.heap.size w1 (w1.drew.alloc (.cells #[] 40)) from (Below.refl _ _).drew.trans (bal (Below.refl _ w1.drew) _)) (by omega))
      have o0 : OwnSl GObj.vals 3 40 w1.heap.size (w1.drew.alloc (.cells #[] 40)) (.slice (some ⟨w1.heap.size, 0, none⟩) 0 0) [] := by
        have := World.ownsRow_lit (base := w1.heap.size) (e := 40) (size := 3) w1.drew #[] 0 (by simp) (by simp [maxLen]) (by simp)
        simpa [OwnSl] using this
      have O0 := Lib.hid o0; clear o0
      have hx0 : x < w1.heap.size := by omega
      have hic : i ≤ c := by omega
      have hic1 : i + 1 ≤ xs.length := by omega
      have hi0 : 0 ≤ (i : Int) + 1 := by omega
      have hi1 : (i : Int) + 1 ≤ (xs.length : Int) := by omega
      have hwr : IntKind.i64.wrap ((i : Int) + 1) = ((i + 1 : Nat) : Int) := by
        have h1 : (i : Int) + 1 = ((i + 1 : Nat) : Int) := by simp
        rw [h1]
        exact wrap_nat (i + 1) (by omega)
      have f00 := F01.out x 0 (by omega) (by omega)
      by_cases hce : c = i + 1
      · have hxe : xs.length = i + 1 := by omega
        have hdn : xs.drop (i + 1) = [] := List.drop_eq_nil_of_le (by omega)
        have OD := Lib.hid (show ObjsAt w1 B (some ⟨b, off, none⟩) (xs.drop (i + 1)) by rw [hdn]; exact Sl.nil)
        have hdl0 : (xs.drop (i + 1)).length = 0 := by rw [hdn]; rfl
        clear hdl hdn
        subst hce
        rw [hxe] at t00
        have hq : (i : Int) ≤ (i : Int) + 1 := by omega
        have hdl := hdl0; clear hdl0
        go_wp2_with fail
        go_region_law (first
          | (refine step_append_objs rfl _ _ rfl w1.heap.size [] (xs.take i) (.slice (some ⟨w1.heap.size, 0, none⟩) 0 0) rfl O0.out (some ⟨b, off, none⟩) (i + 1) B (by rw [htl]; rfl) OT.out (by simp; omega) (by simp) ?_; intro v1 w2 hO1 hg1; rw [List.nil_append] at hO1; have HO1 := Lib.hid hO1; clear hO1; have hb12 : Below w1.heap.size w1 w2 := below_of_grown (grown_trans (World.grownBy_alloc w1 (.cells #[] 40) _) ⟨hg1.os, hg1.tape, hg1.output, hg1.size, hg1.block⟩) (Nat.le_refl _) (fun g e => (World.ownsRow.lt O0.out g e).1); clear hg1; have u00 := (hb12.cell (p := ⟨x, 0, none⟩) hx0).trans t00)
          | (refine step_append_objs rfl _ _ rfl w1.heap.size (xs.take i) (xs.drop (i + 1)) v1 rfl HO1.out (some ⟨b, off, none⟩) 0 B (by first | (rw [hdl]; rfl) | (rw [hdl]; simp)) (Sl.below OD.out hb12 (by omega)) (by rw [htl, hdl]; omega) hb12.size ?_; intro v2 w3 hO2 hg2; obtain ⟨A3, c3, rfl⟩ := hO2.form; rw [← HDL.out] at hO2 ⊢; have HO2 := Lib.hid hO2; clear hO2; have hb13 : Below w1.heap.size w1 w3 := hb12.trans (below_of_grown hg2 hb12.size (fun g e => (World.ownsRow.lt HO1.out g e).1)); clear hg2 hb12 HO1; have y00 := (hb13.cell (p := ⟨x, 0, none⟩) hx0).trans t00; have g00 := (hb13.frozen (p := ⟨x, 0, none⟩) hx0).trans f00))
        all_goals
          have T04 := ((show Two w1 x (.slice (some ⟨b, off, none⟩) (i + 1) (i + 1)) (.int .i64 next) from ⟨t00, t01⟩).below hb13 hx0).set0 (.slice A3 (delL xs key).length c3)
          have T14 := (T11.out.below hb13 (by omega)).far (p := ⟨x, 0, none⟩) (by show x + 1 ≠ x; omega) (.slice A3 (delL xs key).length c3)
          have g40 := (frozen_setCell w3 ⟨x, 0, none⟩ (.slice A3 (delL xs key).length c3) ⟨x + 1, 0, none⟩).trans ((hb13.frozen (p := ⟨x + 1, 0, none⟩) (by show x + 1 < w1.heap.size; omega)).trans f10)
          have g41 := (frozen_setCell w3 ⟨x, 0, none⟩ (.slice A3 (delL xs key).length c3) ⟨x + 1, 1, none⟩).trans ((hb13.frozen (p := ⟨x + 1, 1, none⟩) (by show x + 1 < w1.heap.size; omega)).trans f11)
          have O4 := Lib.hid (HO2.out.far (p := ⟨x, 0, none⟩) hx0 (.slice A3 (delL xs key).length c3))
          have B4 : Below x w (w3.setCell ⟨x, 0, none⟩ (.slice A3 (delL xs key).length c3)) := (b1.trans (hb13.mono (by omega))).setCell (p := ⟨x, 0, none⟩) (Nat.le_refl _) _
          clear t00 t01 t10 t11 f10 f11 f00 y00 g00 hb13 HO2 b1 p0 p1 p2 OT O0 T11 F01
          generalize w3.setCell ⟨x, 0, none⟩ (.slice A3 (delL xs key).length c3) = w4 at *
          obtain ⟨q0, q1⟩ := T04
          obtain ⟨r0, r1⟩ := T14
          go_wp2
          obtain ⟨hsl, hfr, hbl, hcc⟩ := OwnSl.sl O4.out vals_length
          obtain ⟨⟨z0, z1⟩, k1, k2, k3, k4⟩ := fin_store (w := w) ⟨r0, r1⟩ hsl hfr (fun b e => ⟨by have := (hbl b e).1; omega, (hbl b e).2⟩) (by rw [Hx.out]; exact B4) (by rw [Hx.out]; omega) (.slice A3 (delL xs key).length c3) (.int .i64 next)
          clear q0 q1 r0 r1 g40 g41 hsl hfr hbl
          generalize (w4.setCell ⟨x + 1, 0, none⟩ (.slice A3 (delL xs key).length c3)).setCell ⟨x + 1, 1, none⟩ (.int .i64 next) = wF at *
          exact bodyPost_ret (v := .tuple #[.agg #[.slice A3 (delL xs key).length c3, .int .i64 next], .int .i64 0]) (by simp [results, Try.results72, go_sem, z0, z1]) rfl ⟨delL xs key, 0, A3, c3, HVP.out, fun h => absurd rfl h, fun _ => rfl, rfl, k1, k4⟩
      · have OD := Lib.hid (ObjsAt.drop HW.out (i + 1))
        go_wp2_with fail
        go_region_law (first
          | (refine step_append_objs rfl _ _ rfl w1.heap.size [] (xs.take i) (.slice (some ⟨w1.heap.size, 0, none⟩) 0 0) rfl O0.out (some ⟨b, off, none⟩) c B (by rw [htl]; rfl) OT.out (by simp; omega) (by simp) ?_; intro v1 w2 hO1 hg1; rw [List.nil_append] at hO1; have HO1 := Lib.hid hO1; clear hO1; have hb12 : Below w1.heap.size w1 w2 := below_of_grown (grown_trans (World.grownBy_alloc w1 (.cells #[] 40) _) ⟨hg1.os, hg1.tape, hg1.output, hg1.size, hg1.block⟩) (Nat.le_refl _) (fun g e => (World.ownsRow.lt O0.out g e).1); clear hg1; have u00 := (hb12.cell (p := ⟨x, 0, none⟩) hx0).trans t00)
          | (refine step_append_objs rfl _ _ rfl w1.heap.size (xs.take i) (xs.drop (i + 1)) v1 rfl HO1.out (some ⟨b, off + (i + 1) * 3, none⟩) (c - (i + 1)) B (by rw [hdl]; rfl) (Sl.below OD.out hb12 (by omega)) (by rw [htl, hdl]; omega) hb12.size ?_; intro v2 w3 hO2 hg2; obtain ⟨A3, c3, rfl⟩ := hO2.form; rw [← HDL.out] at hO2 ⊢; have HO2 := Lib.hid hO2; clear hO2; have hb13 : Below w1.heap.size w1 w3 := hb12.trans (below_of_grown hg2 hb12.size (fun g e => (World.ownsRow.lt HO1.out g e).1)); clear hg2 hb12 HO1; have y00 := (hb13.cell (p := ⟨x, 0, none⟩) hx0).trans t00; have g00 := (hb13.frozen (p := ⟨x, 0, none⟩) hx0).trans f00))
        all_goals
          have T04 := ((show Two w1 x (.slice (some ⟨b, off, none⟩) xs.length c) (.int .i64 next) from ⟨t00, t01⟩).below hb13 hx0).set0 (.slice A3 (delL xs key).length c3)
          have T14 := (T11.out.below hb13 (by omega)).far (p := ⟨x, 0, none⟩) (by show x + 1 ≠ x; omega) (.slice A3 (delL xs key).length c3)
          have g40 := (frozen_setCell w3 ⟨x, 0, none⟩ (.slice A3 (delL xs key).length c3) ⟨x + 1, 0, none⟩).trans ((hb13.frozen (p := ⟨x + 1, 0, none⟩) (by show x + 1 < w1.heap.size; omega)).trans f10)
          have g41 := (frozen_setCell w3 ⟨x, 0, none⟩ (.slice A3 (delL xs key).length c3) ⟨x + 1, 1, none⟩).trans ((hb13.frozen (p := ⟨x + 1, 1, none⟩) (by show x + 1 < w1.heap.size; omega)).trans f11)
          have O4 := Lib.hid (HO2.out.far (p := ⟨x, 0, none⟩) hx0 (.slice A3 (delL xs key).length c3))
          have B4 : Below x w (w3.setCell ⟨x, 0, none⟩ (.slice A3 (delL xs key).length c3)) := (b1.trans (hb13.mono (by omega))).setCell (p := ⟨x, 0, none⟩) (Nat.le_refl _) _
          clear t00 t01 t10 t11 f10 f11 f00 y00 g00 hb13 HO2 b1 p0 p1 p2 OT O0 T11 F01
          generalize w3.setCell ⟨x, 0, none⟩ (.slice A3 (delL xs key).length c3) = w4 at *
          obtain ⟨q0, q1⟩ := T04
          obtain ⟨r0, r1⟩ := T14
          go_wp2
          obtain ⟨hsl, hfr, hbl, hcc⟩ := OwnSl.sl O4.out vals_length
          obtain ⟨⟨z0, z1⟩, k1, k2, k3, k4⟩ := fin_store (w := w) ⟨r0, r1⟩ hsl hfr (fun b e => ⟨by have := (hbl b e).1; omega, (hbl b e).2⟩) (by rw [Hx.out]; exact B4) (by rw [Hx.out]; omega) (.slice A3 (delL xs key).length c3) (.int .i64 next)
          clear q0 q1 r0 r1 g40 g41 hsl hfr hbl
          generalize (w4.setCell ⟨x + 1, 0, none⟩ (.slice A3 (delL xs key).length c3)).setCell ⟨x + 1, 1, none⟩ (.int .i64 next) = wF at *
          exact bodyPost_ret (v := .tuple #[.agg #[.slice A3 (delL xs key).length c3, .int .i64 next], .int .i64 0]) (by simp [results, Try.results72, go_sem, z0, z1]) rfl ⟨delL xs key, 0, A3, c3, HVP.out, fun h => absurd rfl h, fun _ => rfl, rfl, k1, k4⟩
    · have d3 : (xs[i].ver == ver) = false := by simpa using hve
      have HE := hend 10 (.inr (.inl ⟨xs[i], hlo, hve, rfl⟩)) (by omega)
      clear hend hv hlo hve
      go_wp2
      obtain ⟨⟨z0, z1⟩, hd⟩ := HE.out _ rfl
      clear t10 t11 f10 f11
      generalize (w1.setCell ⟨x + 1, 0, none⟩ (.slice (some ⟨b, off, none⟩) xs.length c)).setCell ⟨x + 1, 1, none⟩ (.int .i64 next) = wF at *
      exact bodyPost_ret (v := .tuple #[.agg #[.slice (some ⟨b, off, none⟩) xs.length c, .int .i64 next], .int .i64 10]) (by simp [results, Try.results72, go_sem, z0, z1]) rfl hd

end Go.Proofs.Ytpgilbmajbpdkaa
