/-
  Contracts of the model's l01Absent and PutAbsent.
-/
import Derived.Test.YtpgilbmajbpdkaaSpecSet
namespace Go.Proofs.Ytpgilbmajbpdkaa
open Go.ChangeShapes Go.WideShapes Go.ChangeAt Go.RowKit Go.Maps
set_option linter.unusedVariables false

/-- what l01Absent says -/
def AbsC (xs : List GObj) (next : Int) (key data : ByteArray) (L : List GObj) (nx code : Int) : Prop :=
  (look xs key ≠ none ∧ L = xs ∧ nx = next ∧ code = 9) ∨ (look xs key = none ∧ ∃ ver, PutP xs next key data ver code L nx ∧ (code = 0 → ver = next) ∧ (code ≠ 0 → ver = 0))

/-- a store and a code are answered; of the memory: only that the store can be read -/
def StS (R : List GObj → Int → Int → Prop) (w : World) (e : Ending) (w' : World) : Prop :=
  ∃ (L : List GObj) (nx code : Int) (A : Option Addr) (c : Nat), R L nx code ∧ e = .returned (.tuple #[.agg #[.slice A L.length c, .int .i64 nx], .int .i64 code]) ∧ ObjsAt w' w'.heap.size A L ∧ Below w.heap.size w w'

theorem RoomP.put {xs : List GObj} {next : Int} {key data : ByteArray} {code : Int} (h : RoomP xs next key data code) (hz : code ≠ 0) : PutP xs next key data 0 code xs next := by
  rcases h with ⟨h1, rfl⟩ | ⟨h1, h2, rfl⟩ | ⟨h1, h2, rfl⟩
  · exact .inl ⟨h1, rfl, rfl, rfl, rfl⟩
  · exact .inr (.inl ⟨h1, h2, rfl, rfl, rfl, rfl⟩)
  · exact absurd rfl hz

theorem RoomP.put0 {xs : List GObj} {next : Int} {key data : ByteArray} (h : RoomP xs next key data 0) : PutP xs next key data next 0 (setL xs ⟨key, next, data⟩) (next + 1) := by
  rcases h with ⟨h1, h2⟩ | ⟨h1, h2, h3⟩ | ⟨h1, h2, _⟩
  · cases h2
  · cases h3
  · exact .inr (.inr ⟨h1, h2, rfl, rfl, rfl, rfl⟩)

set_option maxRecDepth 100000 in
set_option maxHeartbeats 1000000 in
theorem specAbsent_any (b off c : Nat) (next : Int) (xs : List GObj) (key data : ByteArray) (B : Nat) (w : World) (h : ObjsAt w B (some ⟨b, off, none⟩) xs) (hB : B ≤ w.heap.size) (hS : StoreP xs next) (hc : xs.length ≤ c) (hk : key.size ≤ maxLen) (hd : data.size ≤ maxLen) :
    Calls Try.prog 49 #[.agg #[.slice (some ⟨b, off, none⟩) xs.length c, .int .i64 next], .string key, .string data] w (StS (AbsC xs next key data) w) := by
  have H := Lib.hid h; clear h
  have hl := hS.2.2.1
  have hnx : 0 ≤ next ∧ next ≤ 1000000000 := ⟨by have := hS.1; omega, hS.2.1⟩
  clear hS
  go_enter Try.func49, Try.ntmps49
  go_wp2_with fail
  obtain ⟨W, hW⟩ : ∃ W, W = (w.alloc (.cells #[.slice (some ⟨b, off, none⟩) xs.length c, .int .i64 next] 25)).alloc (.cells #[.slice none 0 0, .int .i64 0] 25) := ⟨_, rfl⟩
  have t0 : Two W w.heap.size (.slice (some ⟨b, off, none⟩) xs.length c) (.int .i64 next) := by rw [hW]; exact (Two.new w _ _ _).alloc (by simp) _
  have t1 : Two W (w.heap.size + 1) (.slice none 0 0) (.int .i64 0) := by
    rw [hW]
    have := Two.new (w.alloc (.cells #[.slice (some ⟨b, off, none⟩) xs.length c, .int .i64 next] 25)) (.slice none 0 0) (.int .i64 0) 25
    simpa using this
  have f1 : ∀ i, W.frozen? ⟨w.heap.size + 1, i, none⟩ = false := fun i => by
    rw [hW]
    exact free_alloc (w.alloc (.cells #[.slice (some ⟨b, off, none⟩) xs.length c, .int .i64 next] 25)) #[.slice none 0 0, .int .i64 0] 25 0 (w.heap.size + 1) (by simp [blk]) i
  have b0 : Below w.heap.size w W := by rw [hW]; exact bal (bal (Below.refl _ _) _) _
  have s0 : W.heap.size = w.heap.size + 2 := by rw [hW]; simp
  rw [← hW]
  clear hW
  have T0 := Lib.hid t0; clear t0
  have T1 := Lib.hid t1; clear t1
  have F1 := Lib.hid f1; clear f1
  generalize hx : w.heap.size = x at *
  have Hx := Lib.hid hx; clear hx
  have hend : ∀ w1 code, Below x w w1 → W.heap.size ≤ w1.heap.size → Below W.heap.size W w1 → AbsC xs next key data xs next code → Two ((w1.setCell ⟨x + 1, 0, none⟩ (.slice (some ⟨b, off, none⟩) xs.length c)).setCell ⟨x + 1, 1, none⟩ (.int .i64 next)) (x + 1) (.slice (some ⟨b, off, none⟩) xs.length c) (.int .i64 next) ∧ StS (AbsC xs next key data) w (.returned (.tuple #[.agg #[.slice (some ⟨b, off, none⟩) xs.length c, .int .i64 next], .int .i64 code])) ((w1.setCell ⟨x + 1, 0, none⟩ (.slice (some ⟨b, off, none⟩) xs.length c)).setCell ⟨x + 1, 1, none⟩ (.int .i64 next)) := by
    intro w1 code hb hs hbW ha
    refine ⟨((T1.out.below hbW (by omega)).set0 _).set1 _, xs, next, code, some ⟨b, off, none⟩, c, ha, rfl, ?_, ?_⟩
    · rw [size_setCell, size_setCell]
      refine Sl.more (B := B) ?_ (by omega)
      refine (Sl.below H.out hb hB).keep fun b i e hlt => ?_
      rw [World.cell?_setCell_other _ _ _ _ (fun e => by injection e with e; omega), World.cell?_setCell_other _ _ _ _ (fun e => by injection e with e; omega)]
    · rw [Hx.out]
      exact (hb.setCell (p := ⟨x + 1, 0, none⟩) (by show x ≤ x + 1; omega) _).setCell (p := ⟨x + 1, 1, none⟩) (by show x ≤ x + 1; omega) _
  have HE := Lib.hid hend; clear hend
  refine (find_any (some ⟨b, off, none⟩) c next xs key B W (Sl.below H.out b0 hB) (by omega) (by omega)).mono ?_
  rintro e w1 ⟨v, hv, rfl, hb1⟩
  have s1 := hb1.size
  have b1 : Below x w w1 := b0.trans (hb1.mono (by omega))
  obtain ⟨t00, t01⟩ := T0.out.below hb1 (by omega)
  obtain ⟨t10, t11⟩ := T1.out.below hb1 (by omega)
  have f10 := (hb1.frozen (p := ⟨x + 1, 0, none⟩) (by show x + 1 < W.heap.size; omega)).trans (F1.out 0)
  have f11 := (hb1.frozen (p := ⟨x + 1, 1, none⟩) (by show x + 1 < W.heap.size; omega)).trans (F1.out 1)
  rcases look_of_find hv with ⟨hneg, hlo⟩ | ⟨i, hi, rfl, hlo⟩
  · have d2 : decide (0 ≤ v) = false := by simp; omega
    clear hv
    have HL := Lib.hid hlo; clear hlo
    go_wp2_with fail
    refine (specRoom_any (some ⟨b, off, none⟩) c next xs key data B w1 (Sl.below H.out b1 hB) (by omega) hl hnx.2 hd).mono ?_
    rintro e w2 ⟨code, hro, rfl, hb2⟩
    have s2 := hb2.size
    have hb12 : Below W.heap.size W w2 := hb1.trans (hb2.mono s1)
    have b2 : Below x w w2 := b1.trans (hb2.mono (by omega))
    clear t00 t01 t10 t11 f10 f11 hb2 hb1 b1
    obtain ⟨t00, t01⟩ := T0.out.below hb12 (by omega)
    obtain ⟨t10, t11⟩ := T1.out.below hb12 (by omega)
    have f10 := (hb12.frozen (p := ⟨x + 1, 0, none⟩) (by show x + 1 < W.heap.size; omega)).trans (F1.out 0)
    have f11 := (hb12.frozen (p := ⟨x + 1, 1, none⟩) (by show x + 1 < W.heap.size; omega)).trans (F1.out 1)
    by_cases hz : code = 0
    · subst hz
      have hp : AbsC xs next key data (setL xs ⟨key, next, data⟩) (next + 1) 0 := .inr ⟨HL.out, next, hro.put0, fun _ => rfl, fun h => absurd rfl h⟩
      have HP := Lib.hid hp; clear hp hro
      go_wp2_with fail
      refine (specSet_any b off c next xs key data B w2 (Sl.below H.out b2 hB) (by omega) hl hc hnx hk).mono ?_
      rintro e w3 ⟨v, rfl, A', c', rfl, hsl, hfr, hbl, hcc, hb3⟩
      have s3 := hb3.size
      have hb13 : Below W.heap.size W w3 := hb12.trans (hb3.mono (by omega))
      have b3 : Below x w w3 := b2.trans (hb3.mono (by omega))
      clear t00 t01 t10 t11 f10 f11 hb3 hb12 b2
      have T1N := T1.out.below hb13 (by omega)
      obtain ⟨t10, t11⟩ := T1.out.below hb13 (by omega)
      have f10 := (hb13.frozen (p := ⟨x + 1, 0, none⟩) (by show x + 1 < W.heap.size; omega)).trans (F1.out 0)
      have f11 := (hb13.frozen (p := ⟨x + 1, 1, none⟩) (by show x + 1 < W.heap.size; omega)).trans (F1.out 1)
      go_wp2
      obtain ⟨⟨z0, z1⟩, r1, r2, r3, r4⟩ := fin_store (w := w) T1N hsl hfr (fun b e => ⟨by have := (hbl b e).1; omega, (hbl b e).2⟩) (by rw [Hx.out]; exact b3) (by rw [Hx.out]; omega) (.slice A' (setL xs ⟨key, next, data⟩).length c') (.int .i64 (next + 1))
      clear t10 t11 f10 f11
      generalize (w3.setCell ⟨x + 1, 0, none⟩ (.slice A' (setL xs ⟨key, next, data⟩).length c')).setCell ⟨x + 1, 1, none⟩ (.int .i64 (next + 1)) = wF at *
      exact bodyPost_ret (v := .tuple #[.agg #[.slice A' (setL xs ⟨key, next, data⟩).length c', .int .i64 (next + 1)], .int .i64 0]) (by simp [results, Try.results49, go_sem, z0, z1]) rfl ⟨_, _, 0, A', c', HP.out, rfl, r1, r4⟩
    · have hp : AbsC xs next key data xs next code := .inr ⟨HL.out, 0, hro.put hz, fun h => absurd h hz, fun _ => rfl⟩
      have d3 : (code != 0) = true := by simpa using hz
      have d4 : (code == 0) = false := by simpa using hz
      obtain ⟨⟨z0, z1⟩, hend⟩ := HE.out w2 code b2 (by omega) hb12 hp
      have HZ := Lib.hid (And.intro z0 z1)
      have HEND := Lib.hid hend
      clear hro hz hp z0 z1 hend
      go_wp2
      obtain ⟨z0, z1⟩ := HZ.out
      have hend := HEND.out
      clear t00 t01 t10 t11 f10 f11 HEND HZ
      generalize (w2.setCell ⟨x + 1, 0, none⟩ (.slice (some ⟨b, off, none⟩) xs.length c)).setCell ⟨x + 1, 1, none⟩ (.int .i64 next) = wF at *
      exact bodyPost_ret (v := .tuple #[.agg #[.slice (some ⟨b, off, none⟩) xs.length c, .int .i64 next], .int .i64 code]) (by simp [results, Try.results49, go_sem, z0, z1]) rfl hend
  · have d2 : decide (0 ≤ (i : Int)) = true := by simp
    have hp : AbsC xs next key data xs next 9 := .inl ⟨by rw [hlo]; simp, rfl, rfl, rfl⟩
    obtain ⟨⟨z0, z1⟩, hend⟩ := HE.out w1 9 b1 (by omega) hb1 hp
    have HZ := Lib.hid (And.intro z0 z1)
    have HEND := Lib.hid hend
    clear hv hlo hp z0 z1 hend
    go_wp2
    obtain ⟨z0, z1⟩ := HZ.out
    have hend := HEND.out
    clear t00 t01 t10 t11 f10 f11 HEND HZ
    generalize (w1.setCell ⟨x + 1, 0, none⟩ (.slice (some ⟨b, off, none⟩) xs.length c)).setCell ⟨x + 1, 1, none⟩ (.int .i64 next) = wF at *
    exact bodyPost_ret (v := .tuple #[.agg #[.slice (some ⟨b, off, none⟩) xs.length c, .int .i64 next], .int .i64 9]) (by simp [results, Try.results49, go_sem, z0, z1]) rfl hend

end Go.Proofs.Ytpgilbmajbpdkaa
