/-
  Contract of the model's PutAbsent.
-/
import Derived.Test.YtpgilbmajbpdkaaSpecAbs
import Derived.Deep.RegionHeld3
namespace Go.Proofs.Ytpgilbmajbpdkaa
open Go.ChangeShapes Go.WideShapes Go.ChangeAt Go.RowKit Go.Maps
set_option linter.unusedVariables false

theorem cfar {wN : World} {x y i : Nat} {v : Value} (a b : Value) (h : y ≠ x + 1) (hc : wN.cell? ⟨y, i, none⟩ = some v) : ((wN.setCell ⟨x + 1, 0, none⟩ a).setCell ⟨x + 1, 1, none⟩ b).cell? ⟨y, i, none⟩ = some v := by
  rw [World.cell?_setCell_other _ _ _ _ (fun e => by injection e with e; omega), World.cell?_setCell_other _ _ _ _ (fun e => by injection e with e; omega)]
  exact hc

theorem faultP_more {xs : List GObj} {next : Int} {key data : ByteArray} {code : Int} (h : FaultP xs next key [] code) (hd : ¬ 65536 < data.size) : FaultP xs next key [data] code := by
  have e : (65536 < key.size ∨ ∃ t ∈ ([] : List ByteArray), 65536 < t.size) ↔ (65536 < key.size ∨ ∃ t ∈ [data], 65536 < t.size) := by simp [hd]
  unfold FaultP at *
  rw [← e]
  exact h

set_option maxRecDepth 100000 in
set_option maxHeartbeats 1000000 in
theorem specPutAbsent_any (b off c : Nat) (next : Int) (xs : List GObj) (key data : ByteArray) (B : Nat) (w : World) (h : ObjsAt w B (some ⟨b, off, none⟩) xs) (hB : B ≤ w.heap.size) (hf : ∀ o ∈ xs, o.fit) (hl : xs.length ≤ 1048576) (hc : xs.length ≤ c) (hk : key.size ≤ maxLen) (hd : data.size ≤ maxLen) :
    Calls Try.prog 17 #[.agg #[.slice (some ⟨b, off, none⟩) xs.length c, .int .i64 next], .string key, .string data] w (StAns (AbsR xs next key data) w) := by
  have H := Lib.hid h; clear h
  have Hf := Lib.hid hf; clear hf
  have Hk := Lib.hid hk
  have Hd := Lib.hid hd
  unfold maxLen at hk hd
  obtain ⟨W, hW⟩ : ∃ W, W = (w.alloc (.cells #[.slice (some ⟨b, off, none⟩) xs.length c, .int .i64 next] 25)).alloc (.cells #[.slice none 0 0, .int .i64 0] 25) := ⟨_, rfl⟩
  have t0 : Two W w.heap.size (.slice (some ⟨b, off, none⟩) xs.length c) (.int .i64 next) := by rw [hW]; exact (Two.new w _ _ _).alloc (by simp) _
  have t1 : Two W (w.heap.size + 1) (.slice none 0 0) (.int .i64 0) := by
    rw [hW]
    have := Two.new (w.alloc (.cells #[.slice (some ⟨b, off, none⟩) xs.length c, .int .i64 next] 25)) (.slice none 0 0) (.int .i64 0) 25
    simpa using this
  have f1 : ∀ i, W.frozen? ⟨w.heap.size + 1, i, none⟩ = false := fun i => by
    rw [hW]
    exact free_alloc (w.alloc (.cells #[.slice (some ⟨b, off, none⟩) xs.length c, .int .i64 next] 25)) #[.slice none 0 0, .int .i64 0] 25 0 (w.heap.size + 1) (by simp [blk]) i
  have b0 : Below w.heap.size w W := by rw [hW]; exact bal (bal (Below.refl _ _) _) _
  have s0 : W.heap.size = w.heap.size + 2 := by rw [hW]; simp
  have T0 := Lib.hid t0; clear t0
  have T1 := Lib.hid t1; clear t1
  have F1 := Lib.hid f1; clear f1
  have HW := Lib.hid hW; clear hW
  by_cases dkc : 65536 < key.size
  · have hr : AbsR xs next key data [] 0 0 2 := .inl ⟨.inl ⟨.inl dkc, rfl⟩, by omega, rfl, rfl, rfl⟩
    have Hr := Lib.hid hr; clear hr
    have dk : decide (65536 < (key.size : Int)) = true := by simp; omega
    go_enter Try.func17, Try.ntmps17
    go_wp2
    rw [← HW.out]
    obtain ⟨z0, z1⟩ := T1.out
    exact bodyPost_ret (v := .tuple #[.agg #[.slice none 0 0, .int .i64 0], .int .i64 0, .int .i64 2]) (by simp [results, Try.results17, go_sem, z0, z1]) rfl ⟨[], 0, 0, 2, none, 0, Hr.out, rfl, Sl.nil, Free.none_, (fun b e => by simp [blk] at e), Nat.le_refl _, b0⟩
  have dk : decide (65536 < (key.size : Int)) = false := by simp; omega
  by_cases ddc : 65536 < data.size
  · have hr : AbsR xs next key data [] 0 0 2 := .inl ⟨.inl ⟨.inr ⟨data, by simp, ddc⟩, rfl⟩, by omega, rfl, rfl, rfl⟩
    have Hr := Lib.hid hr; clear hr
    have dd : decide (65536 < (data.size : Int)) = true := by simp; omega
    go_enter Try.func17, Try.ntmps17
    go_wp2
    rw [← HW.out]
    obtain ⟨z0, z1⟩ := T1.out
    exact bodyPost_ret (v := .tuple #[.agg #[.slice none 0 0, .int .i64 0], .int .i64 0, .int .i64 2]) (by simp [results, Try.results17, go_sem, z0, z1]) rfl ⟨[], 0, 0, 2, none, 0, Hr.out, rfl, Sl.nil, Free.none_, (fun b e => by simp [blk] at e), Nat.le_refl _, b0⟩
  have dd : decide (65536 < (data.size : Int)) = false := by simp; omega
  go_enter Try.func17, Try.ntmps17
  go_wp2_with fail
  rw [← HW.out]
  clear HW
  refine (specAsk_any (some ⟨b, off, none⟩) c next xs key B W (Sl.below H.out b0 hB) (by omega) Hf.out hl Hk.out).mono ?_
  rintro e w1 ⟨code, hcd0, rfl, hb1⟩
  have hcd : FaultP xs next key [data] code := faultP_more hcd0 ddc
  clear hcd0
  have b1 := bnext b0 hb1
  have T01 := Lib.hid (T0.out.below hb1 (by omega)); clear T0
  have T11 := Lib.hid (T1.out.below hb1 (by omega)); clear T1
  have F11 := Lib.hid (show ∀ i, w1.frozen? ⟨w.heap.size + 1, i, none⟩ = false from fun i => (hb1.frozen (p := ⟨w.heap.size + 1, i, none⟩) (by show w.heap.size + 1 < W.heap.size; omega)).trans (F1.out i)); clear F1
  have s1 : w.heap.size + 2 ≤ w1.heap.size := by have := hb1.size; omega
  clear hb1 b0
  generalize hx : w.heap.size = x at *
  have Hx := Lib.hid hx; clear hx
  by_cases hz : code = 0
  · subst hz
    have hS := (FaultP.zero hcd).1
    have hl3 := hS.2.2.1
    have HS := Lib.hid hS; clear hS
    have Hc := Lib.hid hcd; clear hcd
    have T01' := T01
    obtain ⟨t10, t11⟩ := T01.out
    go_wp2_with fail
    refine (specAbsent_any b off c next xs key data B w1 (Sl.below H.out b1 hB) (by omega) HS.out hc Hk.out Hd.out).mono ?_
    rintro e w2 ⟨L, nx2, code, A2, c2, hab, rfl, ho2, hb2⟩
    have hr : AbsR xs next key data L nx2 (if code = 0 then next else 0) code := by
      rcases hab with ⟨h1, rfl, rfl, rfl⟩ | ⟨h1, ver, hp, h2, h3⟩
      · exact .inr (.inl ⟨Hc.out, h1, rfl, rfl, by simp, rfl⟩)
      · by_cases hz : code = 0
        · have e1 := h2 hz
          subst hz
          subst e1
          exact .inr (.inr ⟨Hc.out, h1, by simpa using hp⟩)
        · have e1 := h3 hz
          subst e1
          exact .inr (.inr ⟨Hc.out, h1, by simpa [hz] using hp⟩)
    have hLl : L.length ≤ 301 := by
      rcases hab with ⟨_, rfl, _⟩ | ⟨_, ver, hp, _⟩
      · omega
      · have := (PutP.facts hp (rise_of_store HS.out) (fun o ho => (Hf.out o ho).1.1) Hk.out).2.1; omega
    have Hr := Lib.hid hr; clear hr hab
    have Ho2 := Lib.hid ho2; clear ho2
    have b2 : Below x w w2 := b1.trans (hb2.mono (by omega))
    have T12 := Lib.hid (T11.out.below hb2 (by omega)); clear T11 T01
    have F12 := Lib.hid (show ∀ i, w2.frozen? ⟨x + 1, i, none⟩ = false from fun i => (hb2.frozen (p := ⟨x + 1, i, none⟩) (by show x + 1 < w1.heap.size; omega)).trans (F11.out i)); clear F11
    have s2 : x + 2 ≤ w2.heap.size := by have := hb2.size; omega
    have T02 := Lib.hid (T01'.out.below hb2 (by omega)); clear T01'
    clear hb2 t10 t11 b1
    obtain ⟨t00, t01⟩ := T02.out
    by_cases hz : code = 0
    · subst hz
      have hr0 : AbsR xs next key data L nx2 next 0 := by have := Hr.out; simpa using this
      clear Hr
      have Hr := Lib.hid hr0; clear hr0
      go_wp2_with fail
      obtain ⟨W3, hW3⟩ : ∃ W3, W3 = w2.alloc (.cells #[.slice A2 L.length c2, .int .i64 nx2] 25) := ⟨_, rfl⟩
      have hb3 : Below w2.heap.size w2 W3 := by rw [hW3]; exact bal (Below.refl _ _) _
      have y3 : Two W3 w2.heap.size (.slice A2 L.length c2) (.int .i64 nx2) := by rw [hW3]; exact Two.new _ _ _ _
      have s3 : w2.heap.size < W3.heap.size := by rw [hW3]; simp
      rw [← hW3]
      clear hW3 t00 t01
      have x1 := (T02.out.below hb3 (by omega)).2
      have Ho3 := Lib.hid (Sl.below Ho2.out hb3 (Nat.le_refl _)); clear Ho2 T02
      have T13 := Lib.hid (T12.out.below hb3 (by omega)); clear T12
      have F13 := Lib.hid (show ∀ i, W3.frozen? ⟨x + 1, i, none⟩ = false from fun i => (hb3.frozen (p := ⟨x + 1, i, none⟩) (by show x + 1 < w2.heap.size; omega)).trans (F12.out i)); clear F12
      have b3 : Below x w W3 := b2.trans (hb3.mono (by omega))
      obtain ⟨y30, y31⟩ := y3
      clear hb3 b2
      generalize w2.heap.size = y at *
      have hyx : y ≠ x + 1 := by omega
      have hxx : x ≠ x + 1 := by omega
      have sx : x < W3.heap.size := by omega
      go_region_held3 (fun w' => w'.cell? ⟨y, 0, none⟩ = some (.slice A2 L.length c2) ∧ w'.cell? ⟨y, 1, none⟩ = some (.int .i64 nx2) ∧ w'.cell? ⟨x, 1, none⟩ = some (.int .i64 next))
        (first | exact ⟨n0, n1, n2⟩ | exact ⟨cfar _ _ hyx n0, cfar _ _ hyx n1, cfar _ _ hxx n2⟩ | (go_keep; done) | (dsimp only; refine ⟨?_, ?_, ?_⟩ <;> go_keep))
        (first
          | (go_at_call 50; refine (own_any A2 c2 nx2 L y W3.drew (by exact Ho3.out) (by exact Nat.le_of_lt s3) (by omega)).mono ?_; rintro e wN ⟨v, rfl, A', c', rfl, hsl, hfr, hbl, hcc, hbN'⟩; have hbN : Below W3.heap.size W3 wN := (Below.refl _ _).drew.trans hbN'; clear hbN'; have n0 := (hbN.cell (p := ⟨y, 0, none⟩) s3).trans y30; have n1 := (hbN.cell (p := ⟨y, 1, none⟩) s3).trans y31; have n2 := (hbN.cell (p := ⟨x, 1, none⟩) sx).trans x1; obtain ⟨t10, t11⟩ := T13.out.below hbN (by omega); have f10 := (hbN.frozen (p := ⟨x + 1, 0, none⟩) (by show x + 1 < W3.heap.size; omega)).trans (F13.out 0); have f11 := (hbN.frozen (p := ⟨x + 1, 1, none⟩) (by show x + 1 < W3.heap.size; omega)).trans (F13.out 1)))
      all_goals
        have T1N : Two wN (x + 1) (.slice none 0 0) (.int .i64 0) := ⟨t10, t11⟩
        have bN : Below x w wN := b3.trans (hbN.mono (by omega))
        have hbl' : ∀ b, blk A' = some b → x + 1 < b ∧ b < wN.heap.size := fun b e => ⟨by have h1 := (hbl b e).1; have h2 : W3.heap.size ≤ b := h1; omega, (hbl b e).2⟩
        obtain ⟨⟨z0, z1⟩, r1, r2, r3, r4⟩ := fin_store (w := w) T1N hsl hfr hbl' (by rw [Hx.out]; exact bN) (by rw [Hx.out]; omega) (.slice A' L.length c') (.int .i64 nx2)
        clear n0 n1 n2 t10 t11 f10 f11 hbN y30 y31 x1
        generalize (wN.setCell ⟨x + 1, 0, none⟩ (.slice A' L.length c')).setCell ⟨x + 1, 1, none⟩ (.int .i64 nx2) = wF at *
        go_wp2
        exact bodyPost_ret (v := .tuple #[.agg #[.slice A' L.length c', .int .i64 nx2], .int .i64 next, .int .i64 0]) (by simp [results, Try.results17, go_sem, z0, z1]) rfl ⟨L, nx2, next, 0, A', c', Hr.out, rfl, r1, r2, r3, hcc, r4⟩
    have d2 : (code != 0) = true := by simpa using hz
    have d3 : (code == 0) = false := by simpa using hz
    simp only [hz, if_false] at Hr
    clear t00 t01
    go_wp2_with fail
    obtain ⟨W3, hW3⟩ : ∃ W3, W3 = w2.alloc (.cells #[.slice A2 L.length c2, .int .i64 nx2] 25) := ⟨_, rfl⟩
    have hb3 : Below w2.heap.size w2 W3 := by rw [hW3]; exact bal (Below.refl _ _) _
    have s3 := hb3.size
    rw [← hW3]
    clear hW3
    refine (own_any A2 c2 nx2 L w2.heap.size W3 (Sl.below Ho2.out hb3 (Nat.le_refl _)) s3 (by omega)).mono ?_
    rintro e wN ⟨v, rfl, A', c', rfl, hsl, hfr, hbl, hcc, hbN⟩
    have bb : Below w2.heap.size w2 wN := bnext hb3 hbN
    have bN : Below x w wN := b2.trans (bb.mono (by omega))
    obtain ⟨t10, t11⟩ := T12.out.below bb (by omega)
    have f10 := (bb.frozen (p := ⟨x + 1, 0, none⟩) (by show x + 1 < w2.heap.size; omega)).trans (F12.out 0)
    have f11 := (bb.frozen (p := ⟨x + 1, 1, none⟩) (by show x + 1 < w2.heap.size; omega)).trans (F12.out 1)
    have T1N : Two wN (x + 1) (.slice none 0 0) (.int .i64 0) := ⟨t10, t11⟩
    clear hb3 hbN bb T12 F12 Ho2
    go_wp2
    obtain ⟨⟨z0, z1⟩, r1, r2, r3, r4⟩ := fin_store (w := w) T1N hsl hfr (fun b e => ⟨by have := (hbl b e).1; omega, (hbl b e).2⟩) (by rw [Hx.out]; exact bN) (by rw [Hx.out]; omega) (.slice A' L.length c') (.int .i64 nx2)
    clear t10 t11 f10 f11
    generalize (wN.setCell ⟨x + 1, 0, none⟩ (.slice A' L.length c')).setCell ⟨x + 1, 1, none⟩ (.int .i64 nx2) = wF at *
    exact bodyPost_ret (v := .tuple #[.agg #[.slice A' L.length c', .int .i64 nx2], .int .i64 0, .int .i64 code]) (by simp [results, Try.results17, go_sem, z0, z1]) rfl ⟨L, nx2, 0, code, A', c', Hr.out, rfl, r1, r2, r3, hcc, r4⟩
  · have hr : AbsR xs next key data [] 0 0 code := .inl ⟨hcd, hz, rfl, rfl, rfl⟩
    have Hr := Lib.hid hr; clear hr
    have d2 : (code != 0) = true := by simpa using hz
    have d3 : (code == 0) = false := by simpa using hz
    clear hz hcd
    have T1N := T11.out
    obtain ⟨t10, t11⟩ := T11.out
    have f10 := F11.out 0
    have f11 := F11.out 1
    go_wp2
    obtain ⟨⟨z0, z1⟩, r1, r2, r3, r4⟩ := fin_store (w := w) (A := none) (L := []) T1N Sl.nil Free.none_ (fun b e => by cases e) (by rw [Hx.out]; exact b1) (by rw [Hx.out]; omega) (.slice none 0 0) (.int .i64 0)
    clear t10 t11 f10 f11
    generalize (w1.setCell ⟨x + 1, 0, none⟩ (.slice none 0 0)).setCell ⟨x + 1, 1, none⟩ (.int .i64 0) = wF at *
    exact bodyPost_ret (v := .tuple #[.agg #[.slice none 0 0, .int .i64 0], .int .i64 0, .int .i64 code]) (by simp [results, Try.results17, go_sem, z0, z1]) rfl ⟨[], 0, 0, code, none, 0, Hr.out, rfl, r1, r2, r3, by simp, r4⟩

end Go.Proofs.Ytpgilbmajbpdkaa
