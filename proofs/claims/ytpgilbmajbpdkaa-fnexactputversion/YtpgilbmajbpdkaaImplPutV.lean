/-
  Contract of the program's PutVersion.
-/
import Derived.Test.YtpgilbmajbpdkaaImplPut
namespace Go.Proofs.Ytpgilbmajbpdkaa
open Go.ChangeShapes Go.WideShapes Go.ChangeAt Go.RowKit Go.Maps
set_option linter.unusedVariables false

/-- what PutVersion answers -/
def OvrR (xs : List GObj) (next : Int) (key : ByteArray) (ver : Int) (data : ByteArray) (L : List GObj) (nx put code : Int) : Prop :=
  (FaultP xs next key [data] code ∧ code ≠ 0 ∧ L = [] ∧ nx = 0 ∧ put = 0) ∨
  (FaultP xs next key [data] 0 ∧ VerP xs key ver code ∧ code ≠ 0 ∧ L = xs ∧ nx = next ∧ put = 0) ∨
  (FaultP xs next key [data] 0 ∧ VerP xs key ver 0 ∧ PutP xs next key data put code L nx)

set_option maxRecDepth 100000 in
set_option maxHeartbeats 1000000 in
theorem putVersion_any (A : Option Addr) (c : Nat) (next : Int) (xs : List GObj) (key : ByteArray) (ver : Int) (data : ByteArray) (B : Nat) (w : World) (h : ObjsAt w B A xs) (hB : B ≤ w.heap.size) (hf : ∀ o ∈ xs, o.fit) (hl : xs.length ≤ 1048576) (hk : key.size ≤ maxLen) (hd : data.size ≤ maxLen) :
    Calls Try.prog 24 #[.agg #[.slice A xs.length c, .int .i64 next], .string key, .int .i64 ver, .string data] w (StAns (OvrR xs next key ver data) w) := by
  have H := Lib.hid h; clear h
  have Hf := Lib.hid hf; clear hf
  have Hk := Lib.hid hk; clear hk
  have Hd := Lib.hid hd; clear hd
  go_enter Try.func24, Try.ntmps24
  go_wp2_with fail
  obtain ⟨W, hW⟩ : ∃ W, W = ((w.alloc (.cells #[.slice A xs.length c, .int .i64 next] 25)).alloc (.cells #[.slice none 0 0, .int .i64 0] 25)).alloc (.cells #[.string data] 9) := ⟨_, rfl⟩
  have t0 : Two W w.heap.size (.slice A xs.length c) (.int .i64 next) := by rw [hW]; exact ((Two.new w _ _ _).alloc (by simp) _).alloc (by simp; omega) _
  have t1 : Two W (w.heap.size + 1) (.slice none 0 0) (.int .i64 0) := by
    rw [hW]
    have := (Two.new (w.alloc (.cells #[.slice A xs.length c, .int .i64 next] 25)) (.slice none 0 0) (.int .i64 0) 25).alloc (by simp) (.cells #[.string data] 9)
    simpa using this
  have k1 : W.cell? ⟨w.heap.size + 2, 0, none⟩ = some (.string data) := by
    rw [hW]
    have := cell_one_new ((w.alloc (.cells #[.slice A xs.length c, .int .i64 next] 25)).alloc (.cells #[.slice none 0 0, .int .i64 0] 25)) (.string data) 9 0 _ rfl
    simpa [Addr.add] using this
  have f1 : ∀ i, W.frozen? ⟨w.heap.size + 1, i, none⟩ = false := fun i => by
    rw [hW]
    have := free_alloc (w.alloc (.cells #[.slice A xs.length c, .int .i64 next] 25)) #[.slice none 0 0, .int .i64 0] 25 0 (w.heap.size + 1) (by simp [blk]) i
    exact (((Below.refl _ _).alloc (Nat.le_refl _) _).frozen (p := ⟨w.heap.size + 1, i, none⟩) (by simp)).trans this
  have b0 : Below w.heap.size w W := by rw [hW]; exact bal (bal (bal (Below.refl _ _) _) _) _
  have s0 : W.heap.size = w.heap.size + 3 := by rw [hW]; simp
  rw [← hW]
  clear hW
  have hst : StrsAt W W.heap.size (some ⟨w.heap.size + 1 + 1, 0, none⟩) [data] := by
    intro _
    refine ⟨w.heap.size + 2, 0, rfl, by omega, fun k hk j v hv => ?_⟩
    match k, j, hk, hv with
    | 0, 0, _, hv => simp [sVals] at hv; subst hv; simpa using k1
    | 0, j + 1, _, hv => simp [sVals] at hv
    | k + 1, _, hk, _ => simp at hk
  have T0 := Lib.hid t0; clear t0
  have T1 := Lib.hid t1; clear t1
  have F1 := Lib.hid f1; clear f1 k1
  refine (fault_any A c next xs key (some ⟨w.heap.size + 1 + 1, 0, none⟩) 1 [data] W.heap.size W ((Sl.below H.out b0 hB).more (by omega)) hst (Nat.le_refl _) Hf.out hl Hk.out (by simp; exact Hd.out) (by simp)).mono ?_
  clear hst
  rintro e w1 ⟨code, hc, rfl, hb1⟩
  have b1 := bnext b0 hb1
  have T01 := Lib.hid (T0.out.below hb1 (by omega)); clear T0
  have T11 := Lib.hid (T1.out.below hb1 (by omega)); clear T1
  have F11 := Lib.hid (show ∀ i, w1.frozen? ⟨w.heap.size + 1, i, none⟩ = false from fun i => (hb1.frozen (p := ⟨w.heap.size + 1, i, none⟩) (by show w.heap.size + 1 < W.heap.size; omega)).trans (F1.out i)); clear F1
  have s1 : w.heap.size + 3 ≤ w1.heap.size := by have := hb1.size; omega
  clear hb1 b0
  generalize hx : w.heap.size = x at *
  have Hx := Lib.hid hx; clear hx
  by_cases hz : code = 0
  · subst hz
    have hS := (FaultP.zero hc).1
    have hnx : 0 ≤ next ∧ next ≤ 1000000000 := ⟨by have := hS.1; omega, hS.2.1⟩
    have hl3 := hS.2.2.1
    have HS := Lib.hid hS; clear hS
    have Hc := Lib.hid hc; clear hc
    obtain ⟨t10, t11⟩ := T01.out
    go_wp2_with fail
    refine (open_any A c next xs B w1 (Sl.below H.out b1 hB) (by omega) Hf.out hl3).mono ?_
    rintro e w2 ⟨g, m, rfl, hsh, hg0, hm0, hb2⟩
    rw [tell_look' HS.out] at hsh
    have b2 : Below x w w2 := b1.trans (hb2.mono (by omega))
    have T12 := Lib.hid (T11.out.below hb2 (by omega)); clear T11 T01
    have F12 := Lib.hid (show ∀ i, w2.frozen? ⟨x + 1, i, none⟩ = false from fun i => (hb2.frozen (p := ⟨x + 1, i, none⟩) (by show x + 1 < w1.heap.size; omega)).trans (F11.out i)); clear F11
    have s2 : x + 3 ≤ w2.heap.size := by have := hb2.size; omega
    clear hb2 t10 t11 b1
    have hgl := hsh.2.2.2.2
    have HSH := Lib.hid hsh; clear hsh
    go_wp2_with fail
    refine (ver_any g m xs.length next xs key ver w2 HSH.out Hk.out).mono ?_
    rintro e w3 ⟨code, hv, rfl, hb3⟩
    have s3 := hb3.size
    have HSH3 := Lib.hid (HSH.out.below hb3); clear HSH
    by_cases hz : code = 0
    · subst hz
      go_wp2_with fail
      refine (put_any g m xs.length next xs key data w3 HSH3.out (rise_of_store HS.out) (by omega) Hk.out Hd.out hnx).mono ?_
      rintro e w4 ⟨put, code, L', nx', hp, rfl, hsh4, hb4⟩
      have hr : OvrR xs next key ver data L' nx' put code := .inr (.inr ⟨Hc.out, hv, hp⟩)
      have Hr := Lib.hid hr; clear hr
      obtain ⟨hri, hlen, hks⟩ := PutP.facts hp (rise_of_store HS.out) (fun o ho => (Hf.out o ho).1.1) Hk.out
      clear hp hv
      have hb24 : Below w1.heap.size w2 w4 := (hb3.mono (by omega)).trans (hb4 w1.heap.size (by omega) (by omega) (by omega))
      clear hb4 HSH3 hb3
      have s4 := hb24.size
      go_wp2_with fail
      refine (close_any g m (xs.length + 1) nx' L' w4 hsh4 hri (by omega) hks).mono ?_
      rintro e wN ⟨v, rfl, A', c', rfl, hsl, hfr, hbl, hcc, hbN⟩
      have bb : Below w1.heap.size w2 wN := hb24.trans (hbN.mono (by omega))
      have bN : Below x w wN := b2.trans (bb.mono (by omega))
      have T1N := T12.out.below bb (by omega)
      obtain ⟨t10, t11⟩ := T1N
      have f10 := (bb.frozen (p := ⟨x + 1, 0, none⟩) (by show x + 1 < w1.heap.size; omega)).trans (F12.out 0)
      have f11 := (bb.frozen (p := ⟨x + 1, 1, none⟩) (by show x + 1 < w1.heap.size; omega)).trans (F12.out 1)
      have T1N : Two wN (x + 1) (.slice none 0 0) (.int .i64 0) := ⟨t10, t11⟩
      clear hb24 hbN bb T12 F12 hsh4
      go_wp2
      obtain ⟨⟨z0, z1⟩, r1, r2, r3, r4⟩ := fin_store (w := w) T1N hsl hfr (fun b e => ⟨by have := (hbl b e).1; omega, (hbl b e).2⟩) (by rw [Hx.out]; exact bN) (by rw [Hx.out]; omega) (.slice A' L'.length c') (.int .i64 nx')
      clear t10 t11 f10 f11
      generalize (wN.setCell ⟨x + 1, 0, none⟩ (.slice A' L'.length c')).setCell ⟨x + 1, 1, none⟩ (.int .i64 nx') = wF at *
      exact bodyPost_ret (v := .tuple #[.agg #[.slice A' L'.length c', .int .i64 nx'], .int .i64 put, .int .i64 code]) (by simp [results, Try.results24, go_sem, z0, z1]) rfl ⟨L', nx', put, code, A', c', Hr.out, rfl, r1, r2, r3, hcc, r4⟩
    · have hr : OvrR xs next key ver data xs next 0 code := .inr (.inl ⟨Hc.out, hv, hz, rfl, rfl, rfl⟩)
      have Hr := Lib.hid hr; clear hr hv
      have d2 : (code != 0) = true := by simpa using hz
      have d3 : (code == 0) = false := by simpa using hz
      clear hz
      go_wp2_with fail
      refine (close_any g m xs.length next xs w3 HSH3.out (rise_of_store HS.out) (by omega) (fun o ho => (Hf.out o ho).1.1)).mono ?_
      rintro e wN ⟨v, rfl, A', c', rfl, hsl, hfr, hbl, hcc, hbN⟩
      have bb : Below w2.heap.size w2 wN := bnext hb3 hbN
      have bN : Below x w wN := b2.trans (bb.mono (by omega))
      have T1N := T12.out.below bb (by omega)
      obtain ⟨t10, t11⟩ := T1N
      have f10 := (bb.frozen (p := ⟨x + 1, 0, none⟩) (by show x + 1 < w2.heap.size; omega)).trans (F12.out 0)
      have f11 := (bb.frozen (p := ⟨x + 1, 1, none⟩) (by show x + 1 < w2.heap.size; omega)).trans (F12.out 1)
      have T1N : Two wN (x + 1) (.slice none 0 0) (.int .i64 0) := ⟨t10, t11⟩
      clear hb3 hbN bb HSH3 T12 F12
      go_wp2
      obtain ⟨⟨z0, z1⟩, r1, r2, r3, r4⟩ := fin_store (w := w) T1N hsl hfr (fun b e => ⟨by have := (hbl b e).1; omega, (hbl b e).2⟩) (by rw [Hx.out]; exact bN) (by rw [Hx.out]; omega) (.slice A' xs.length c') (.int .i64 next)
      clear t10 t11 f10 f11
      generalize (wN.setCell ⟨x + 1, 0, none⟩ (.slice A' xs.length c')).setCell ⟨x + 1, 1, none⟩ (.int .i64 next) = wF at *
      exact bodyPost_ret (v := .tuple #[.agg #[.slice A' xs.length c', .int .i64 next], .int .i64 0, .int .i64 code]) (by simp [results, Try.results24, go_sem, z0, z1]) rfl ⟨xs, next, 0, code, A', c', Hr.out, rfl, r1, r2, r3, hcc, r4⟩
  · have hr : OvrR xs next key ver data [] 0 0 code := .inl ⟨hc, hz, rfl, rfl, rfl⟩
    have Hr := Lib.hid hr; clear hr
    have d2 : (code != 0) = true := by simpa using hz
    have d3 : (code == 0) = false := by simpa using hz
    clear hz hc
    have T1N := T11.out
    obtain ⟨t10, t11⟩ := T11.out
    have f10 := F11.out 0
    have f11 := F11.out 1
    go_wp2
    obtain ⟨⟨z0, z1⟩, r1, r2, r3, r4⟩ := fin_store (w := w) (A := none) (L := []) T1N Sl.nil Free.none_ (fun b e => by cases e) (by rw [Hx.out]; exact b1) (by rw [Hx.out]; omega) (.slice none 0 0) (.int .i64 0)
    clear t10 t11 f10 f11
    generalize (w1.setCell ⟨x + 1, 0, none⟩ (.slice none 0 0)).setCell ⟨x + 1, 1, none⟩ (.int .i64 0) = wF at *
    exact bodyPost_ret (v := .tuple #[.agg #[.slice none 0 0, .int .i64 0], .int .i64 0, .int .i64 code]) (by simp [results, Try.results24, go_sem, z0, z1]) rfl ⟨[], 0, 0, code, none, 0, Hr.out, rfl, r1, r2, r3, by simp, r4⟩

end Go.Proofs.Ytpgilbmajbpdkaa
