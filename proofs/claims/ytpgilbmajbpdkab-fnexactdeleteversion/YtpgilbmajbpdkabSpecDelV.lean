/-
  Contract of the model's DeleteVersion.
-/
import Derived.Test.YtpgilbmajbpdkabSpecDel
namespace Go.Proofs.Ytpgilbmajbpdkab
open Go.ChangeShapes Go.WideShapes Go.ChangeAt Go.RowKit Go.Maps
set_option linter.unusedVariables false

set_option maxRecDepth 100000 in
set_option maxHeartbeats 1000000 in
theorem specDeleteVersion_any (A : Option Addr) (c : Nat) (next : Int) (xs : List GObj) (key : ByteArray) (ver : Int) (B : Nat) (w : World) (h : ObjsAt w B A xs) (hB : B ≤ w.heap.size) (hf : ∀ o ∈ xs, o.fit) (hl : xs.length ≤ 1048576) (hc : xs.length ≤ c) (hk : key.size ≤ maxLen) :
    Calls Try.prog 7 #[.agg #[.slice A xs.length c, .int .i64 next], .string key, .int .i64 ver] w (StAns2 (DelR xs next key ver) w) := by
  have H := Lib.hid h; clear h
  have Hf := Lib.hid hf; clear hf
  have Hk := Lib.hid hk
  unfold maxLen at hk
  obtain ⟨W, hW⟩ : ∃ W, W = (w.alloc (.cells #[.slice A xs.length c, .int .i64 next] 28)).alloc (.cells #[.slice none 0 0, .int .i64 0] 28) := ⟨_, rfl⟩
  have t0 : Two W w.heap.size (.slice A xs.length c) (.int .i64 next) := by rw [hW]; exact (Two.new w _ _ _).alloc (by simp) _
  have t1 : Two W (w.heap.size + 1) (.slice none 0 0) (.int .i64 0) := by
    rw [hW]
    have := Two.new (w.alloc (.cells #[.slice A xs.length c, .int .i64 next] 28)) (.slice none 0 0) (.int .i64 0) 28
    simpa using this
  have f1 : ∀ i, W.frozen? ⟨w.heap.size + 1, i, none⟩ = false := fun i => by
    rw [hW]
    exact free_alloc (w.alloc (.cells #[.slice A xs.length c, .int .i64 next] 28)) #[.slice none 0 0, .int .i64 0] 28 0 (w.heap.size + 1) (by simp [blk]) i
  have b0 : Below w.heap.size w W := by rw [hW]; exact bal (bal (Below.refl _ _) _) _
  have s0 : W.heap.size = w.heap.size + 2 := by rw [hW]; simp
  have T0 := Lib.hid t0; clear t0
  have T1 := Lib.hid t1; clear t1
  have F1 := Lib.hid f1; clear f1
  have HW := Lib.hid hW; clear hW
  by_cases c1 : 65536 < key.size
  · have hr : DelR xs next key ver [] 0 2 := .inl ⟨.inl ⟨.inl c1, rfl⟩, by omega, rfl, rfl⟩
    have Hr := Lib.hid hr; clear hr
    have d1 : decide (65536 < (key.size : Int)) = true := by simp; omega
    go_enter Try.func7, Try.ntmps7
    go_wp2
    rw [← HW.out]
    obtain ⟨z0, z1⟩ := T1.out
    exact bodyPost_ret (v := .tuple #[.agg #[.slice none 0 0, .int .i64 0], .int .i64 2]) (by simp [results, Try.results7, go_sem, z0, z1]) rfl ⟨[], 0, 2, none, 0, Hr.out, rfl, Sl.nil, Free.none_, (fun b e => by simp [blk] at e), Nat.le_refl _, b0⟩
  have d1 : decide (65536 < (key.size : Int)) = false := by simp; omega
  clear c1
  go_enter Try.func7, Try.ntmps7
  go_wp2_with fail
  rw [← HW.out]
  clear HW
  refine (specAsk_any A c next xs key B W (Sl.below H.out b0 hB) (by omega) Hf.out hl Hk.out).mono ?_
  rintro e w1 ⟨code, hcd, rfl, hb1⟩
  have b1 := bnext b0 hb1
  have T01 := Lib.hid (T0.out.below hb1 (by omega)); clear T0
  have T11 := Lib.hid (T1.out.below hb1 (by omega)); clear T1
  have F11 := Lib.hid (show ∀ i, w1.frozen? ⟨w.heap.size + 1, i, none⟩ = false from fun i => (hb1.frozen (p := ⟨w.heap.size + 1, i, none⟩) (by show w.heap.size + 1 < W.heap.size; omega)).trans (F1.out i)); clear F1
  have s1 : w.heap.size + 2 ≤ w1.heap.size := by have := hb1.size; omega
  clear hb1 b0
  generalize hx : w.heap.size = x at *
  have Hx := Lib.hid hx; clear hx
  by_cases hz : code = 0
  · subst hz
    have hS := (FaultP.zero hcd).1
    have hl3 := hS.2.2.1
    have HS := Lib.hid hS; clear hS
    have Hc := Lib.hid hcd; clear hcd
    obtain ⟨t10, t11⟩ := T01.out
    go_wp2_with fail
    refine (specDelete_any A c next xs key ver B w1 (Sl.below H.out b1 hB) (by omega) hl3 hc (rise_of_store HS.out)).mono ?_
    rintro e w2 ⟨L, code, A2, c2, hv, hL1, hL2, rfl, ho2, hb2⟩
    have hr : DelR xs next key ver L next code := by
      by_cases hz : code = 0
      · subst hz; exact .inr (.inr ⟨Hc.out, hv, rfl, hL2 rfl, rfl⟩)
      · exact .inr (.inl ⟨Hc.out, hv, hz, hL1 hz, rfl⟩)
    have Hr := Lib.hid hr; clear hr
    have hLl : L.length ≤ 300 := by
      by_cases hz : code = 0
      · rw [hL2 hz]; have := delL_len xs key; omega
      · rw [hL1 hz]; omega
    clear hv hL1 hL2
    have Ho2 := Lib.hid ho2; clear ho2
    have b2 : Below x w w2 := b1.trans (hb2.mono (by omega))
    have T12 := Lib.hid (T11.out.below hb2 (by omega)); clear T11 T01
    have F12 := Lib.hid (show ∀ i, w2.frozen? ⟨x + 1, i, none⟩ = false from fun i => (hb2.frozen (p := ⟨x + 1, i, none⟩) (by show x + 1 < w1.heap.size; omega)).trans (F11.out i)); clear F11
    have s2 : x + 2 ≤ w2.heap.size := by have := hb2.size; omega
    clear hb2 t10 t11 b1
    go_wp2_with fail
    obtain ⟨W3, hW3⟩ : ∃ W3, W3 = w2.alloc (.cells #[.slice A2 L.length c2, .int .i64 next] 28) := ⟨_, rfl⟩
    have hb3 : Below w2.heap.size w2 W3 := by rw [hW3]; exact bal (Below.refl _ _) _
    have s3 := hb3.size
    rw [← hW3]
    clear hW3
    refine (own_any A2 c2 next L w2.heap.size W3 (Sl.below Ho2.out hb3 (Nat.le_refl _)) s3 (by omega)).mono ?_
    rintro e wN ⟨v, rfl, A', c', rfl, hsl, hfr, hbl, hcc, hbN⟩
    have bb : Below w2.heap.size w2 wN := bnext hb3 hbN
    have bN : Below x w wN := b2.trans (bb.mono (by omega))
    obtain ⟨t10, t11⟩ := T12.out.below bb (by omega)
    have f10 := (bb.frozen (p := ⟨x + 1, 0, none⟩) (by show x + 1 < w2.heap.size; omega)).trans (F12.out 0)
    have f11 := (bb.frozen (p := ⟨x + 1, 1, none⟩) (by show x + 1 < w2.heap.size; omega)).trans (F12.out 1)
    have T1N : Two wN (x + 1) (.slice none 0 0) (.int .i64 0) := ⟨t10, t11⟩
    clear hb3 hbN bb T12 F12 Ho2
    go_wp2
    obtain ⟨⟨z0, z1⟩, r1, r2, r3, r4⟩ := fin_store (w := w) T1N hsl hfr (fun b e => ⟨by have := (hbl b e).1; omega, (hbl b e).2⟩) (by rw [Hx.out]; exact bN) (by rw [Hx.out]; omega) (.slice A' L.length c') (.int .i64 next)
    clear t10 t11 f10 f11
    generalize (wN.setCell ⟨x + 1, 0, none⟩ (.slice A' L.length c')).setCell ⟨x + 1, 1, none⟩ (.int .i64 next) = wF at *
    exact bodyPost_ret (v := .tuple #[.agg #[.slice A' L.length c', .int .i64 next], .int .i64 code]) (by simp [results, Try.results7, go_sem, z0, z1]) rfl ⟨L, next, code, A', c', Hr.out, rfl, r1, r2, r3, hcc, r4⟩
  · have hr : DelR xs next key ver [] 0 code := .inl ⟨hcd, hz, rfl, rfl⟩
    have Hr := Lib.hid hr; clear hr
    have d2 : (code != 0) = true := by simpa using hz
    have d3 : (code == 0) = false := by simpa using hz
    clear hz hcd
    have T1N := T11.out
    obtain ⟨t10, t11⟩ := T11.out
    have f10 := F11.out 0
    have f11 := F11.out 1
    go_wp2
    obtain ⟨⟨z0, z1⟩, r1, r2, r3, r4⟩ := fin_store (w := w) (A := none) (L := []) T1N Sl.nil Free.none_ (fun b e => by cases e) (by rw [Hx.out]; exact b1) (by rw [Hx.out]; omega) (.slice none 0 0) (.int .i64 0)
    clear t10 t11 f10 f11
    generalize (w1.setCell ⟨x + 1, 0, none⟩ (.slice none 0 0)).setCell ⟨x + 1, 1, none⟩ (.int .i64 0) = wF at *
    exact bodyPost_ret (v := .tuple #[.agg #[.slice none 0 0, .int .i64 0], .int .i64 code]) (by simp [results, Try.results7, go_sem, z0, z1]) rfl ⟨[], 0, code, none, 0, Hr.out, rfl, r1, r2, r3, by simp, r4⟩

end Go.Proofs.Ytpgilbmajbpdkab
