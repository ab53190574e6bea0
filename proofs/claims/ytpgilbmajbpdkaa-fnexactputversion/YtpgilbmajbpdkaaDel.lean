/-
  Contracts of DeleteVersion of both packages.
-/
import Derived.Test.YtpgilbmajbpdkaaImplPut
namespace Go.Proofs.Ytpgilbmajbpdkaa
open Go.ChangeShapes Go.WideShapes Go.ChangeAt Go.RowKit Go.Maps
set_option linter.unusedVariables false

/-- a store in new memory and a code are answered -/
def StAns2 (R : List GObj → Int → Int → Prop) (w : World) (e : Ending) (w' : World) : Prop :=
  ∃ (L : List GObj) (nx code : Int) (A : Option Addr) (c : Nat), R L nx code ∧ e = .returned (.tuple #[.agg #[.slice A L.length c, .int .i64 nx], .int .i64 code]) ∧ ObjsAt w' w'.heap.size A L ∧ Free w' A ∧ (∀ b, blk A = some b → w.heap.size ≤ b ∧ b < w'.heap.size) ∧ L.length ≤ c ∧ Below w.heap.size w w'

/-- what DeleteVersion answers -/
def DelR (xs : List GObj) (next : Int) (key : ByteArray) (ver : Int) (L : List GObj) (nx code : Int) : Prop :=
  (FaultP xs next key [] code ∧ code ≠ 0 ∧ L = [] ∧ nx = 0) ∨
  (FaultP xs next key [] 0 ∧ VerP xs key ver code ∧ code ≠ 0 ∧ L = xs ∧ nx = next) ∨
  (FaultP xs next key [] 0 ∧ VerP xs key ver 0 ∧ code = 0 ∧ L = delL xs key ∧ nx = next)

theorem VerP.one {L : List GObj} {key : ByteArray} {ver a b : Int} (h : VerP L key ver a) (h' : VerP L key ver b) : a = b := by
  rcases h with ⟨h1, rfl⟩ | ⟨o, h1, h2, rfl⟩ | ⟨o, h1, h2, rfl⟩ <;> rcases h' with ⟨k1, rfl⟩ | ⟨p, k1, k2, rfl⟩ | ⟨p, k1, k2, rfl⟩ <;> first
    | rfl
    | (rw [h1] at k1; cases k1; contradiction)
    | (rw [h1] at k1; cases k1)

theorem DelR.one {xs : List GObj} {next : Int} {key : ByteArray} {ver : Int} {L L' : List GObj} {nx nx' c c' : Int} (h : DelR xs next key ver L nx c) (h' : DelR xs next key ver L' nx' c') : L' = L ∧ nx' = nx ∧ c' = c := by
  have fo : ∀ a b, FaultP xs next key [] a → FaultP xs next key [] b → a = b := fun a b h h' => by first | exact FaultP.one h h' | exact (FaultP.one h h').symm
  rcases h with ⟨h1, h2, e1, e2⟩ | ⟨h1, h2, h3, e1, e2⟩ | ⟨h1, h2, e0, e1, e2⟩
  · rcases h' with ⟨k1, k2, d1, d2⟩ | ⟨k1, k2, k3, d1, d2⟩ | ⟨k1, k2, d0, d1, d2⟩
    · exact ⟨by rw [d1, e1], by rw [d2, e2], fo _ _ k1 h1⟩
    · exact absurd (fo _ _ h1 k1) h2
    · exact absurd (fo _ _ h1 k1) h2
  · rcases h' with ⟨k1, k2, d1, d2⟩ | ⟨k1, k2, k3, d1, d2⟩ | ⟨k1, k2, d0, d1, d2⟩
    · exact absurd (fo _ _ k1 h1) k2
    · exact ⟨by rw [d1, e1], by rw [d2, e2], VerP.one k2 h2⟩
    · exact absurd (VerP.one h2 k2) h3
  · rcases h' with ⟨k1, k2, d1, d2⟩ | ⟨k1, k2, k3, d1, d2⟩ | ⟨k1, k2, d0, d1, d2⟩
    · exact absurd (fo _ _ k1 h1) k2
    · exact absurd (VerP.one k2 h2) k3
    · exact ⟨by rw [d1, e1], by rw [d2, e2], by rw [d0, e0]⟩

theorem ObjMap.del {w : World} {b n : Nat} {f : ByteArray → Option GObj} (h : ObjMap w b n f) {k : ByteArray} (hk : k.size ≤ maxLen) (ty : TypeId) :
    ∃ w', (Builtin.delete_ #[65, 9] ty #[.map (some b), .string k]).run Try.prog w = .ok (.tuple #[]) w' ∧ ObjMap w' b n (fun x => if x = k then none else f x) ∧ w.grownBy w' (some b) := by
  obtain ⟨D, hown, hat⟩ := h
  obtain ⟨w', hrun, hown', hg⟩ := hown.drop strKeyed Try.underlying65 (WideMaps.keyOf_string_mk Try.underlying9 hk) ty
  exact ⟨w', hrun, ⟨_, hown', hat.del k⟩, hg.grown⟩

theorem tell_look2 {xs : List GObj} {next : Int} (hs : StoreP xs next) : tell xs xs.length = look xs := funext fun k => tell_look hs k

theorem delL_size {xs : List GObj} {key : ByteArray} (h : ∀ o ∈ xs, o.key.size ≤ maxLen) : ∀ o ∈ delL xs key, o.key.size ≤ maxLen := fun o ho => h o (List.mem_filter.1 ho).1

set_option maxRecDepth 100000 in
set_option maxHeartbeats 1000000 in
theorem deleteVersion_any (A : Option Addr) (c : Nat) (next : Int) (xs : List GObj) (key : ByteArray) (ver : Int) (B : Nat) (w : World) (h : ObjsAt w B A xs) (hB : B ≤ w.heap.size) (hf : ∀ o ∈ xs, o.fit) (hl : xs.length ≤ 1048576) (hk : key.size ≤ maxLen) :
    Calls Try.prog 19 #[.agg #[.slice A xs.length c, .int .i64 next], .string key, .int .i64 ver] w (StAns2 (DelR xs next key ver) w) := by
  have H := Lib.hid h; clear h
  have Hf := Lib.hid hf; clear hf
  have Hk := Lib.hid hk; clear hk
  go_enter Try.func19, Try.ntmps19
  go_wp2_with fail
  obtain ⟨W, hW⟩ : ∃ W, W = (w.alloc (.cells #[.slice A xs.length c, .int .i64 next] 25)).alloc (.cells #[.slice none 0 0, .int .i64 0] 25) := ⟨_, rfl⟩
  have t0 : Two W w.heap.size (.slice A xs.length c) (.int .i64 next) := by rw [hW]; exact (Two.new w _ _ _).alloc (by simp) _
  have t1 : Two W (w.heap.size + 1) (.slice none 0 0) (.int .i64 0) := by
    rw [hW]
    have := Two.new (w.alloc (.cells #[.slice A xs.length c, .int .i64 next] 25)) (.slice none 0 0) (.int .i64 0) 25
    simpa using this
  have f1 : ∀ i, W.frozen? ⟨w.heap.size + 1, i, none⟩ = false := fun i => by
    rw [hW]
    exact free_alloc (w.alloc (.cells #[.slice A xs.length c, .int .i64 next] 25)) #[.slice none 0 0, .int .i64 0] 25 0 (w.heap.size + 1) (by simp [blk]) i
  have b0 : Below w.heap.size w W := by rw [hW]; exact bal (bal (Below.refl _ _) _) _
  have s0 : W.heap.size = w.heap.size + 2 := by rw [hW]; simp
  rw [← hW]
  clear hW
  have T0 := Lib.hid t0; clear t0
  have T1 := Lib.hid t1; clear t1
  have F1 := Lib.hid f1; clear f1
  refine (fault_any A c next xs key none 0 [] B W (Sl.below H.out b0 hB) Sl.nil (by omega) Hf.out hl Hk.out (by simp) (by simp)).mono ?_
  rintro e w1 ⟨code, hc, rfl, hb1⟩
  have b1 := bnext b0 hb1
  have T01 := Lib.hid (T0.out.below hb1 (by omega)); clear T0
  have T11 := Lib.hid (T1.out.below hb1 (by omega)); clear T1
  have F11 := Lib.hid (show ∀ i, w1.frozen? ⟨w.heap.size + 1, i, none⟩ = false from fun i => (hb1.frozen (p := ⟨w.heap.size + 1, i, none⟩) (by show w.heap.size + 1 < W.heap.size; omega)).trans (F1.out i)); clear F1
  have s1 : w.heap.size + 2 ≤ w1.heap.size := by have := hb1.size; omega
  clear hb1 b0
  generalize hx : w.heap.size = x at *
  have Hx := Lib.hid hx; clear hx
  by_cases hz : code = 0
  · subst hz
    have hS := (FaultP.zero hc).1
    have hl3 := hS.2.2.1
    have HS := Lib.hid hS; clear hS
    have Hc := Lib.hid hc; clear hc
    obtain ⟨t10, t11⟩ := T01.out
    go_wp2_with fail
    refine (open_any A c next xs B w1 (Sl.below H.out b1 hB) (by omega) Hf.out hl3).mono ?_
    rintro e w2 ⟨g, m, rfl, hsh, hg0, hm0, hb2⟩
    rw [tell_look2 HS.out] at hsh
    have b2 : Below x w w2 := b1.trans (hb2.mono (by omega))
    have T12 := Lib.hid (T11.out.below hb2 (by omega)); clear T11 T01
    have F12 := Lib.hid (show ∀ i, w2.frozen? ⟨x + 1, i, none⟩ = false from fun i => (hb2.frozen (p := ⟨x + 1, i, none⟩) (by show x + 1 < w1.heap.size; omega)).trans (F11.out i)); clear F11
    have s2 : x + 2 ≤ w2.heap.size := by have := hb2.size; omega
    clear hb2 t10 t11 b1
    have hgl := hsh.2.2.2.2
    have HSH := Lib.hid hsh; clear hsh
    go_wp2_with fail
    refine (ver_any g m xs.length next xs key ver w2 HSH.out Hk.out).mono ?_
    rintro e w3 ⟨code, hv, rfl, hb3⟩
    have s3 := hb3.size
    have HSH3 := Lib.hid (HSH.out.below hb3); clear HSH
    by_cases hz : code = 0
    · subst hz
      have hr : DelR xs next key ver (delL xs key) next 0 := .inr (.inr ⟨Hc.out, hv, rfl, rfl, rfl⟩)
      have Hr := Lib.hid hr; clear hr hv
      obtain ⟨⟨tg0, tg1⟩, hfg, hm3, hgm, hg3⟩ := HSH3.out
      obtain ⟨w4, hrun, hm4, hg4⟩ := hm3.del Hk.out 0
      have he4 : (fun y => if y = key then none else look xs y) = look (delL xs key) := by
        funext y
        rw [delL_look]
      rw [he4] at hm4
      clear he4
      have hsh4 : Shelf w4 g m xs.length next (look (delL xs key)) := ⟨Two.grown ⟨tg0, tg1⟩ hg4 hg3 (fun g' e => by injection e with e; omega), fun i => (World.frozen?_of_block (a := ⟨g, i, none⟩) (hg4.block g hg3 (fun e => by injection e with e; omega))).trans (hfg i), hm4, hgm, Nat.lt_of_lt_of_le hg3 hg4.size⟩
      have HSH4 := Lib.hid hsh4; clear hsh4 hm4 hm3 hfg
      have hb24 : Below w1.heap.size w2 w4 := (hb3.mono (by omega)).trans (below_of_grown hg4 (by omega) (fun g' e => by injection e with e; omega))
      have s4 := hg4.size
      clear hg4 hb3 HSH3
      go_wp2_with fail
      refine (close_any g m xs.length next (delL xs key) w4 HSH4.out (delL_rise (rise_of_store HS.out) key) (by have := delL_len xs key; omega) (delL_size (fun o ho => (Hf.out o ho).1.1))).mono ?_
      rintro e wN ⟨v, rfl, A', c', rfl, hsl, hfr, hbl, hcc, hbN⟩
      have bb : Below w1.heap.size w2 wN := hb24.trans (hbN.mono (by omega))
      have bN : Below x w wN := b2.trans (bb.mono (by omega))
      obtain ⟨t10, t11⟩ := T12.out.below bb (by omega)
      have f10 := (bb.frozen (p := ⟨x + 1, 0, none⟩) (by show x + 1 < w1.heap.size; omega)).trans (F12.out 0)
      have f11 := (bb.frozen (p := ⟨x + 1, 1, none⟩) (by show x + 1 < w1.heap.size; omega)).trans (F12.out 1)
      have T1N : Two wN (x + 1) (.slice none 0 0) (.int .i64 0) := ⟨t10, t11⟩
      clear hb24 hbN bb T12 F12 HSH4 hrun tg0 tg1
      go_wp2
      obtain ⟨⟨z0, z1⟩, r1, r2, r3, r4⟩ := fin_store (w := w) T1N hsl hfr (fun b e => ⟨by have := (hbl b e).1; omega, (hbl b e).2⟩) (by rw [Hx.out]; exact bN) (by rw [Hx.out]; omega) (.slice A' (delL xs key).length c') (.int .i64 next)
      clear t10 t11 f10 f11
      generalize (wN.setCell ⟨x + 1, 0, none⟩ (.slice A' (delL xs key).length c')).setCell ⟨x + 1, 1, none⟩ (.int .i64 next) = wF at *
      exact bodyPost_ret (v := .tuple #[.agg #[.slice A' (delL xs key).length c', .int .i64 next], .int .i64 0]) (by simp [results, Try.results19, go_sem, z0, z1]) rfl ⟨(delL xs key), next, 0, A', c', Hr.out, rfl, r1, r2, r3, hcc, r4⟩
    · have hr : DelR xs next key ver xs next code := .inr (.inl ⟨Hc.out, hv, hz, rfl, rfl⟩)
      have Hr := Lib.hid hr; clear hr hv
      have d2 : (code != 0) = true := by simpa using hz
      have d3 : (code == 0) = false := by simpa using hz
      clear hz
      go_wp2_with fail
      refine (close_any g m xs.length next xs w3 HSH3.out (rise_of_store HS.out) (by omega) (fun o ho => (Hf.out o ho).1.1)).mono ?_
      rintro e wN ⟨v, rfl, A', c', rfl, hsl, hfr, hbl, hcc, hbN⟩
      have bb : Below w2.heap.size w2 wN := bnext hb3 hbN
      have bN : Below x w wN := b2.trans (bb.mono (by omega))
      obtain ⟨t10, t11⟩ := T12.out.below bb (by omega)
      have f10 := (bb.frozen (p := ⟨x + 1, 0, none⟩) (by show x + 1 < w2.heap.size; omega)).trans (F12.out 0)
      have f11 := (bb.frozen (p := ⟨x + 1, 1, none⟩) (by show x + 1 < w2.heap.size; omega)).trans (F12.out 1)
      have T1N : Two wN (x + 1) (.slice none 0 0) (.int .i64 0) := ⟨t10, t11⟩
      clear hb3 hbN bb T12 F12 HSH3
      go_wp2
      obtain ⟨⟨z0, z1⟩, r1, r2, r3, r4⟩ := fin_store (w := w) T1N hsl hfr (fun b e => ⟨by have := (hbl b e).1; omega, (hbl b e).2⟩) (by rw [Hx.out]; exact bN) (by rw [Hx.out]; omega) (.slice A' xs.length c') (.int .i64 next)
      clear t10 t11 f10 f11
      generalize (wN.setCell ⟨x + 1, 0, none⟩ (.slice A' xs.length c')).setCell ⟨x + 1, 1, none⟩ (.int .i64 next) = wF at *
      exact bodyPost_ret (v := .tuple #[.agg #[.slice A' xs.length c', .int .i64 next], .int .i64 code]) (by simp [results, Try.results19, go_sem, z0, z1]) rfl ⟨xs, next, code, A', c', Hr.out, rfl, r1, r2, r3, hcc, r4⟩
  · have hr : DelR xs next key ver [] 0 code := .inl ⟨hc, hz, rfl, rfl⟩
    have Hr := Lib.hid hr; clear hr
    have d2 : (code != 0) = true := by simpa using hz
    have d3 : (code == 0) = false := by simpa using hz
    clear hz hc
    have T1N := T11.out
    obtain ⟨t10, t11⟩ := T11.out
    have f10 := F11.out 0
    have f11 := F11.out 1
    go_wp2
    obtain ⟨⟨z0, z1⟩, r1, r2, r3, r4⟩ := fin_store (w := w) (A := none) (L := []) T1N Sl.nil Free.none_ (fun b e => by cases e) (by rw [Hx.out]; exact b1) (by rw [Hx.out]; omega) (.slice none 0 0) (.int .i64 0)
    clear t10 t11 f10 f11
    generalize (w1.setCell ⟨x + 1, 0, none⟩ (.slice none 0 0)).setCell ⟨x + 1, 1, none⟩ (.int .i64 0) = wF at *
    exact bodyPost_ret (v := .tuple #[.agg #[.slice none 0 0, .int .i64 0], .int .i64 code]) (by simp [results, Try.results19, go_sem, z0, z1]) rfl ⟨[], 0, code, none, 0, Hr.out, rfl, r1, r2, r3, by simp, r4⟩

end Go.Proofs.Ytpgilbmajbpdkaa
