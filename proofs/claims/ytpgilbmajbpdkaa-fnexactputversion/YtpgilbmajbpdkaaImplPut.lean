/-
  Contracts of the program's PutAbsent, PutVersion and DeleteVersion.
-/
import Derived.Test.YtpgilbmajbpdkaaPut
namespace Go.Proofs.Ytpgilbmajbpdkaa
open Go.ChangeShapes Go.WideShapes Go.ChangeAt Go.RowKit Go.Maps
set_option linter.unusedVariables false

/-- a store in new memory, a version and a code are answered -/
def StAns (R : List GObj → Int → Int → Int → Prop) (w : World) (e : Ending) (w' : World) : Prop :=
  ∃ (L : List GObj) (nx ver code : Int) (A : Option Addr) (c : Nat), R L nx ver code ∧ e = .returned (.tuple #[.agg #[.slice A L.length c, .int .i64 nx], .int .i64 ver, .int .i64 code]) ∧ ObjsAt w' w'.heap.size A L ∧ Free w' A ∧ (∀ b, blk A = some b → w.heap.size ≤ b ∧ b < w'.heap.size) ∧ L.length ≤ c ∧ Below w.heap.size w w'

/-- what PutAbsent answers -/
def AbsR (xs : List GObj) (next : Int) (key data : ByteArray) (L : List GObj) (nx ver code : Int) : Prop :=
  (FaultP xs next key [data] code ∧ code ≠ 0 ∧ L = [] ∧ nx = 0 ∧ ver = 0) ∨
  (FaultP xs next key [data] 0 ∧ look xs key ≠ none ∧ L = xs ∧ nx = next ∧ ver = 0 ∧ code = 9) ∨
  (FaultP xs next key [data] 0 ∧ look xs key = none ∧ PutP xs next key data ver code L nx)

theorem tell_look' {xs : List GObj} {next : Int} (hs : StoreP xs next) : tell xs xs.length = look xs := funext fun k => tell_look hs k

theorem fin_store {w wN : World} {x1 : Nat} {u0 u1 : Value} {A : Option Addr} {L : List GObj} (t : Two wN x1 u0 u1) (hs : ObjsAt wN wN.heap.size A L) (hf : Free wN A) (hb : ∀ b, blk A = some b → x1 < b ∧ b < wN.heap.size) (hB : Below w.heap.size w wN) (hx : w.heap.size ≤ x1) (v0 v1 : Value) :
    Two ((wN.setCell ⟨x1, 0, none⟩ v0).setCell ⟨x1, 1, none⟩ v1) x1 v0 v1 ∧ ObjsAt ((wN.setCell ⟨x1, 0, none⟩ v0).setCell ⟨x1, 1, none⟩ v1) ((wN.setCell ⟨x1, 0, none⟩ v0).setCell ⟨x1, 1, none⟩ v1).heap.size A L ∧ Free ((wN.setCell ⟨x1, 0, none⟩ v0).setCell ⟨x1, 1, none⟩ v1) A ∧
      (∀ b, blk A = some b → w.heap.size ≤ b ∧ b < ((wN.setCell ⟨x1, 0, none⟩ v0).setCell ⟨x1, 1, none⟩ v1).heap.size) ∧ Below w.heap.size w ((wN.setCell ⟨x1, 0, none⟩ v0).setCell ⟨x1, 1, none⟩ v1) := by
  refine ⟨(t.set0 v0).set1 v1, ?_, (hf.setCell _ _).setCell _ _, fun b e => ?_, (hB.setCell (p := ⟨x1, 0, none⟩) hx _).setCell (p := ⟨x1, 1, none⟩) hx _⟩
  · rw [size_setCell, size_setCell]
    exact (Sl.far hs (p := ⟨x1, 0, none⟩) (fun b e => by have := (hb b e).1; show b ≠ x1; omega) _).far (p := ⟨x1, 1, none⟩) (fun b e => by have := (hb b e).1; show b ≠ x1; omega) _
  · rw [size_setCell, size_setCell]
    exact ⟨by have := (hb b e).1; omega, (hb b e).2⟩

theorem PutP.facts {L L' : List GObj} {next nx ver code : Int} {key data : ByteArray} (h : PutP L next key data ver code L' nx) (hr : Rise L) (hk : ∀ o ∈ L, o.key.size ≤ maxLen) (hk' : key.size ≤ maxLen) : Rise L' ∧ L'.length ≤ L.length + 1 ∧ ∀ o ∈ L', o.key.size ≤ maxLen := by
  rcases h with ⟨_, _, _, rfl, _⟩ | ⟨_, _, _, _, rfl, _⟩ | ⟨_, _, _, _, rfl, _⟩
  · exact ⟨hr, by omega, hk⟩
  · exact ⟨hr, by omega, hk⟩
  · refine ⟨setL_rise hr, setL_len _ _, fun o ho => ?_⟩
    rcases setL_mem ho with rfl | ho
    · exact hk'
    · exact hk o ho

set_option maxRecDepth 100000 in
set_option maxHeartbeats 1000000 in
theorem putAbsent_any (A : Option Addr) (c : Nat) (next : Int) (xs : List GObj) (key data : ByteArray) (B : Nat) (w : World) (h : ObjsAt w B A xs) (hB : B ≤ w.heap.size) (hf : ∀ o ∈ xs, o.fit) (hl : xs.length ≤ 1048576) (hk : key.size ≤ maxLen) (hd : data.size ≤ maxLen) :
    Calls Try.prog 16 #[.agg #[.slice A xs.length c, .int .i64 next], .string key, .string data] w (StAns (AbsR xs next key data) w) := by
  have H := Lib.hid h; clear h
  have Hf := Lib.hid hf; clear hf
  have Hk := Lib.hid hk; clear hk
  have Hd := Lib.hid hd; clear hd
  go_enter Try.func16, Try.ntmps16
  go_wp2_with fail
  obtain ⟨W, hW⟩ : ∃ W, W = ((w.alloc (.cells #[.slice A xs.length c, .int .i64 next] 25)).alloc (.cells #[.slice none 0 0, .int .i64 0] 25)).alloc (.cells #[.string data] 9) := ⟨_, rfl⟩
  have t0 : Two W w.heap.size (.slice A xs.length c) (.int .i64 next) := by rw [hW]; exact ((Two.new w _ _ _).alloc (by simp) _).alloc (by simp; omega) _
  have t1 : Two W (w.heap.size + 1) (.slice none 0 0) (.int .i64 0) := by
    rw [hW]
    have := (Two.new (w.alloc (.cells #[.slice A xs.length c, .int .i64 next] 25)) (.slice none 0 0) (.int .i64 0) 25).alloc (by simp) (.cells #[.string data] 9)
    simpa using this
  have k1 : W.cell? ⟨w.heap.size + 2, 0, none⟩ = some (.string data) := by
    rw [hW]
    have := cell_one_new ((w.alloc (.cells #[.slice A xs.length c, .int .i64 next] 25)).alloc (.cells #[.slice none 0 0, .int .i64 0] 25)) (.string data) 9 0 _ rfl
    simpa [Addr.add] using this
  have f1 : ∀ i, W.frozen? ⟨w.heap.size + 1, i, none⟩ = false := fun i => by
    rw [hW]
    have := free_alloc (w.alloc (.cells #[.slice A xs.length c, .int .i64 next] 25)) #[.slice none 0 0, .int .i64 0] 25 0 (w.heap.size + 1) (by simp [blk]) i
    exact (((Below.refl _ _).alloc (Nat.le_refl _) _).frozen (p := ⟨w.heap.size + 1, i, none⟩) (by simp)).trans this
  have b0 : Below w.heap.size w W := by rw [hW]; exact bal (bal (bal (Below.refl _ _) _) _) _
  have s0 : W.heap.size = w.heap.size + 3 := by rw [hW]; simp
  rw [← hW]
  clear hW
  have hst : StrsAt W W.heap.size (some ⟨w.heap.size + 1 + 1, 0, none⟩) [data] := by
    intro _
    refine ⟨w.heap.size + 2, 0, rfl, by omega, fun k hk j v hv => ?_⟩
    match k, j, hk, hv with
    | 0, 0, _, hv => simp [sVals] at hv; subst hv; simpa using k1
    | 0, j + 1, _, hv => simp [sVals] at hv
    | k + 1, _, hk, _ => simp at hk
  have T0 := Lib.hid t0; clear t0
  have T1 := Lib.hid t1; clear t1
  have F1 := Lib.hid f1; clear f1 k1
  refine (fault_any A c next xs key (some ⟨w.heap.size + 1 + 1, 0, none⟩) 1 [data] W.heap.size W ((Sl.below H.out b0 hB).more (by omega)) hst (Nat.le_refl _) Hf.out hl Hk.out (by simp; exact Hd.out) (by simp)).mono ?_
  clear hst
  rintro e w1 ⟨code, hc, rfl, hb1⟩
  have b1 := bnext b0 hb1
  have T01 := Lib.hid (T0.out.below hb1 (by omega)); clear T0
  have T11 := Lib.hid (T1.out.below hb1 (by omega)); clear T1
  have F11 := Lib.hid (show ∀ i, w1.frozen? ⟨w.heap.size + 1, i, none⟩ = false from fun i => (hb1.frozen (p := ⟨w.heap.size + 1, i, none⟩) (by show w.heap.size + 1 < W.heap.size; omega)).trans (F1.out i)); clear F1
  have s1 : w.heap.size + 3 ≤ w1.heap.size := by have := hb1.size; omega
  clear hb1 b0
  generalize hx : w.heap.size = x at *
  have Hx := Lib.hid hx; clear hx
  by_cases hz : code = 0
  · subst hz
    have hS := (FaultP.zero hc).1
    have hnx : 0 ≤ next ∧ next ≤ 1000000000 := ⟨by have := hS.1; omega, hS.2.1⟩
    have hl3 := hS.2.2.1
    have HS := Lib.hid hS; clear hS
    have Hc := Lib.hid hc; clear hc
    obtain ⟨t10, t11⟩ := T01.out
    go_wp2_with fail
    refine (open_any A c next xs B w1 (Sl.below H.out b1 hB) (by omega) Hf.out hl3).mono ?_
    rintro e w2 ⟨g, m, rfl, hsh, hg0, hm0, hb2⟩
    rw [tell_look' HS.out] at hsh
    have b2 : Below x w w2 := b1.trans (hb2.mono (by omega))
    have T12 := Lib.hid (T11.out.below hb2 (by omega)); clear T11 T01
    have F12 := Lib.hid (show ∀ i, w2.frozen? ⟨x + 1, i, none⟩ = false from fun i => (hb2.frozen (p := ⟨x + 1, i, none⟩) (by show x + 1 < w1.heap.size; omega)).trans (F11.out i)); clear F11
    have s2 : x + 3 ≤ w2.heap.size := by have := hb2.size; omega
    clear hb2 t10 t11 b1
    have hlk := hsh.2.2.1.look Hk.out
    obtain ⟨tg0, tg1⟩ := hsh.1
    have hgl := hsh.2.2.2.2
    have HSH := Lib.hid hsh; clear hsh
    cases hlo : look xs key with
    | some o =>
      have hr : AbsR xs next key data xs next 0 9 := .inr (.inl ⟨Hc.out, by rw [hlo]; simp, rfl, rfl, rfl, rfl⟩)
      have Hr := Lib.hid hr; clear hr
      rw [hlo] at hlk
      simp only [orZero, Option.isSome] at hlk
      clear hlo
      go_wp2_with fail
      obtain ⟨W3, hW3⟩ : ∃ W3, W3 = w2.alloc (.cells #[.string o.key, .int .i64 o.ver, .string o.data] 40) := ⟨_, rfl⟩
      have hb3 : Below w2.heap.size w2 W3 := by rw [hW3]; exact bal (Below.refl _ _) _
      rw [← hW3]
      clear hW3 hlk tg0 tg1
      refine (close_any g m xs.length next xs W3 (HSH.out.below hb3) (rise_of_store HS.out) (by omega) (fun o ho => (Hf.out o ho).1.1)).mono ?_
      rintro e wN ⟨v, rfl, A', c', rfl, hsl, hfr, hbl, hcc, hbN⟩
      have bb : Below w2.heap.size w2 wN := bnext hb3 hbN
      have s3 := hb3.size
      have bN : Below x w wN := b2.trans (bb.mono (by omega))
      have T1N := T12.out.below bb (by omega)
      obtain ⟨t10, t11⟩ := T1N
      have f10 := (bb.frozen (p := ⟨x + 1, 0, none⟩) (by show x + 1 < w2.heap.size; omega)).trans (F12.out 0)
      have f11 := (bb.frozen (p := ⟨x + 1, 1, none⟩) (by show x + 1 < w2.heap.size; omega)).trans (F12.out 1)
      have T1N : Two wN (x + 1) (.slice none 0 0) (.int .i64 0) := ⟨t10, t11⟩
      clear hb3 hbN bb HSH T12 F12
      go_wp2
      obtain ⟨⟨z0, z1⟩, r1, r2, r3, r4⟩ := fin_store (w := w) T1N hsl hfr (fun b e => ⟨by have := (hbl b e).1; omega, (hbl b e).2⟩) (by rw [Hx.out]; exact bN) (by rw [Hx.out]; omega) (.slice A' xs.length c') (.int .i64 next)
      clear t10 t11 f10 f11
      generalize (wN.setCell ⟨x + 1, 0, none⟩ (.slice A' xs.length c')).setCell ⟨x + 1, 1, none⟩ (.int .i64 next) = wF at *
      exact bodyPost_ret (v := .tuple #[.agg #[.slice A' xs.length c', .int .i64 next], .int .i64 0, .int .i64 9]) (by simp [results, Try.results16, go_sem, z0, z1]) rfl ⟨xs, next, 0, 9, A', c', Hr.out, rfl, r1, r2, r3, hcc, r4⟩
    | none =>
      rw [hlo] at hlk
      simp only [orZero, Option.isSome] at hlk
      go_wp2_with fail
      obtain ⟨W3, hW3⟩ : ∃ W3, W3 = w2.alloc (.cells #[.string zObj.key, .int .i64 zObj.ver, .string zObj.data] 40) := ⟨_, rfl⟩
      have hb3 : Below w2.heap.size w2 W3 := by rw [hW3]; exact bal (Below.refl _ _) _
      rw [← hW3]
      clear hW3 hlk tg0 tg1
      have s3 := hb3.size
      refine (put_any g m xs.length next xs key data W3 (HSH.out.below hb3) (rise_of_store HS.out) (by omega) Hk.out Hd.out hnx).mono ?_
      rintro e w4 ⟨ver, code, L', nx', hp, rfl, hsh4, hb4⟩
      have hr : AbsR xs next key data L' nx' ver code := .inr (.inr ⟨Hc.out, hlo, hp⟩)
      have Hr := Lib.hid hr; clear hr
      obtain ⟨hri, hlen, hks⟩ := PutP.facts hp (rise_of_store HS.out) (fun o ho => (Hf.out o ho).1.1) Hk.out
      clear hp hlo
      have hb24 : Below w1.heap.size w2 w4 := (hb3.mono (by omega)).trans (hb4 w1.heap.size (by omega) (by omega) (by omega))
      clear hb4 HSH hb3
      have s4 := hb24.size
      go_wp2_with fail
      refine (close_any g m (xs.length + 1) nx' L' w4 hsh4 hri (by omega) hks).mono ?_
      rintro e wN ⟨v, rfl, A', c', rfl, hsl, hfr, hbl, hcc, hbN⟩
      have bb : Below w1.heap.size w2 wN := hb24.trans (hbN.mono (by omega))
      have bN : Below x w wN := b2.trans (bb.mono (by omega))
      have T1N := T12.out.below bb (by omega)
      obtain ⟨t10, t11⟩ := T1N
      have f10 := (bb.frozen (p := ⟨x + 1, 0, none⟩) (by show x + 1 < w1.heap.size; omega)).trans (F12.out 0)
      have f11 := (bb.frozen (p := ⟨x + 1, 1, none⟩) (by show x + 1 < w1.heap.size; omega)).trans (F12.out 1)
      have T1N : Two wN (x + 1) (.slice none 0 0) (.int .i64 0) := ⟨t10, t11⟩
      clear hb24 hbN bb T12 F12 hsh4
      go_wp2
      obtain ⟨⟨z0, z1⟩, r1, r2, r3, r4⟩ := fin_store (w := w) T1N hsl hfr (fun b e => ⟨by have := (hbl b e).1; omega, (hbl b e).2⟩) (by rw [Hx.out]; exact bN) (by rw [Hx.out]; omega) (.slice A' L'.length c') (.int .i64 nx')
      clear t10 t11 f10 f11
      generalize (wN.setCell ⟨x + 1, 0, none⟩ (.slice A' L'.length c')).setCell ⟨x + 1, 1, none⟩ (.int .i64 nx') = wF at *
      exact bodyPost_ret (v := .tuple #[.agg #[.slice A' L'.length c', .int .i64 nx'], .int .i64 ver, .int .i64 code]) (by simp [results, Try.results16, go_sem, z0, z1]) rfl ⟨L', nx', ver, code, A', c', Hr.out, rfl, r1, r2, r3, hcc, r4⟩
  · have hr : AbsR xs next key data [] 0 0 code := .inl ⟨hc, hz, rfl, rfl, rfl⟩
    have Hr := Lib.hid hr; clear hr
    have d2 : (code != 0) = true := by simpa using hz
    have d3 : (code == 0) = false := by simpa using hz
    clear hz hc
    have T1N := T11.out
    obtain ⟨t10, t11⟩ := T11.out
    have f10 := F11.out 0
    have f11 := F11.out 1
    go_wp2
    obtain ⟨⟨z0, z1⟩, r1, r2, r3, r4⟩ := fin_store (w := w) (A := none) (L := []) T1N Sl.nil Free.none_ (fun b e => by cases e) (by rw [Hx.out]; exact b1) (by rw [Hx.out]; omega) (.slice none 0 0) (.int .i64 0)
    clear t10 t11 f10 f11
    generalize (w1.setCell ⟨x + 1, 0, none⟩ (.slice none 0 0)).setCell ⟨x + 1, 1, none⟩ (.int .i64 0) = wF at *
    exact bodyPost_ret (v := .tuple #[.agg #[.slice none 0 0, .int .i64 0], .int .i64 0, .int .i64 code]) (by simp [results, Try.results16, go_sem, z0, z1]) rfl ⟨[], 0, 0, code, none, 0, Hr.out, rfl, r1, r2, r3, by simp, r4⟩

end Go.Proofs.Ytpgilbmajbpdkaa
