/-
  Contracts of impl.ReadDataKey and of the model's: just of a data key the tier and the numbers. Conditions: the program's table of paths is as its text lays it; a text's length.
-/
import Derived.Test.YtpackpocnonpiaaDoorTierI
namespace Go.Proofs.YtpackpocnonpiaaDoor
open Go.ChangeShapes Go.WideShapes Go.ChangeAt Go.RowKit
set_option linter.unusedVariables false
set_option linter.unusedSimpArgs false

def NoKey (key : ByteArray) : Prop := ∀ t n m, ¬ IsKey key t n m

/-- what ReadDataKey answers -/
def KeyCode (key : ByteArray) (t n m cd : Int) : Prop := (65536 < key.size ∧ t = 0 ∧ n = 0 ∧ m = 0 ∧ cd = 2) ∨ (key.size ≤ 65536 ∧ IsKey key t n m ∧ cd = 0) ∨ (key.size ≤ 65536 ∧ NoKey key ∧ t = 0 ∧ n = 0 ∧ m = 0 ∧ cd = 19)

def pathL (k : Nat) : List UInt8 := (pathT k).data.toList
def sixL (k : Nat) : List UInt8 := (sixT k).data.toList

theorem key_list {key : ByteArray} {t n m : Int} (h : IsKey key t n m) : key.data.toList = pathL t.toNat ++ (sixL n.toNat ++ ([45] ++ sixL m.toNat)) ∧ t.toNat < 3 := by
  refine ⟨?_, by have := h.1.2.1; omega⟩
  rw [h.2]
  simp [keyT, pathL, sixL, ByteArray.data_append, Array.toList_append]

theorem path_one {k l : Nat} {A B : List UInt8} (hk : k < 3) (hl : l < 3) (h : pathL k ++ A = pathL l ++ B) : k = l ∧ A = B := by
  match k, hk, l, hl with
  | 0, _, 0, _ => exact ⟨rfl, List.append_cancel_left h⟩
  | 1, _, 1, _ => exact ⟨rfl, List.append_cancel_left h⟩
  | 2, _, 2, _ => exact ⟨rfl, List.append_cancel_left h⟩
  | 0, _, 1, _ => simp [pathL, pathT] at h
  | 0, _, 2, _ => simp [pathL, pathT] at h
  | 1, _, 0, _ => simp [pathL, pathT] at h
  | 1, _, 2, _ => simp [pathL, pathT] at h
  | 2, _, 0, _ => simp [pathL, pathT] at h
  | 2, _, 1, _ => simp [pathL, pathT] at h

theorem sixL_len (k : Nat) : (sixL k).length = 6 := rfl

theorem six_one {k l : Nat} {A B : List UInt8} (hk : k ≤ 999999) (hl : l ≤ 999999) (h : sixL k ++ A = sixL l ++ B) : k = l ∧ A = B := by
  have h1 := congrArg (List.take 6) h
  rw [List.take_left' (sixL_len k), List.take_left' (sixL_len l)] at h1
  have h2 := congrArg dvalK h1
  unfold sixL at h2
  rw [dvalK_six hk, dvalK_six hl] at h2
  subst h2
  exact ⟨rfl, List.append_cancel_left h⟩

theorem parted_of {t : ByteArray} {a : Nat} (h : a ≤ t.size) : ∃ U R, Parted t a U R := by
  have e : t.size = t.data.toList.length := by rw [Array.length_toList]; rfl
  exact ⟨t.data.toList.take a, t.data.toList.drop a, (List.take_append_drop _ _).symm, by rw [List.length_take]; omega⟩

/-- how far a key was read: what was read so far stands in U -/
def StK (key : ByteArray) (a : Nat) (x : Value) (G : List UInt8 → Prop) (U R : List UInt8) : Prop := Parted key a U R ∧ ((x = .nilIface ∧ G U) ∨ (Bad x ∧ NoKey key))

theorem StK.errV {key : ByteArray} {a : Nat} {x : Value} {G : List UInt8 → Prop} {U R : List UInt8} (h : StK key a x G U R) : ErrV x := by
  rcases h.2 with h | h
  · exact Or.inl h.1
  · exact Or.inr h.1

theorem st1 {key : ByteArray} {v a : Nat} {x : Value} (h : Tiered key.data.toList 0 .nilIface v a x) : ∃ U R, StK key a x (fun U => v < 3 ∧ U = pathL v) U R := by
  rcases h with ⟨rfl, R, hv, rfl, e⟩ | ⟨hb, rfl, hn⟩
  · exact ⟨pathL v, R, ⟨e, by rw [Nat.zero_add]; rfl⟩, Or.inl ⟨rfl, hv, rfl⟩⟩
  · exact ⟨[], key.data.toList, ⟨rfl, rfl⟩, Or.inr ⟨hb, fun t n m hk => hn _ _ (key_list hk).2 (key_list hk).1⟩⟩

theorem st2 {key : ByteArray} {v n a a' : Nat} {x x' : Value} {U R : List UInt8} (h : StK key a x (fun U => v < 3 ∧ U = pathL v) U R) (hk : Keyed key R a x n a' x') : ∃ U R, StK key a' x' (fun U => v < 3 ∧ n ≤ 999999 ∧ U = pathL v ++ sixL n) U R := by
  obtain ⟨hp, hx⟩ := h
  rcases hk with ⟨rfl, rfl, hn, R', rfl⟩ | ⟨hb, hle, hn⟩
  · refine ⟨_, _, hp.on, ?_⟩
    rcases hx with ⟨rfl, hv, rfl⟩ | hx
    · exact Or.inl ⟨rfl, hv, hn, rfl⟩
    · exact Or.inr hx
  · obtain ⟨U', R', hp'⟩ := parted_of hle
    refine ⟨U', R', hp', Or.inr ⟨hb, ?_⟩⟩
    rcases hx with ⟨rfl, hv, rfl⟩ | ⟨_, hx⟩
    · intro t i m hk
      obtain ⟨e, h3⟩ := key_list hk
      rw [hp.1] at e
      exact hn _ _ (path_one hv h3 e).2
    · exact hx

theorem st3 {key : ByteArray} {v n a a' : Nat} {x x' : Value} {U R : List UInt8} (h : StK key a x (fun U => v < 3 ∧ n ≤ 999999 ∧ U = pathL v ++ sixL n) U R) (hk : Marked key ⟨#[45]⟩ a x R a' x') : ∃ U R, StK key a' x' (fun U => v < 3 ∧ n ≤ 999999 ∧ U = pathL v ++ sixL n ++ [45]) U R := by
  obtain ⟨hp, hx⟩ := h
  rcases hk with ⟨rfl, rfl, R', rfl⟩ | ⟨hb, rfl, hn⟩
  · refine ⟨_, _, hp.on, ?_⟩
    rcases hx with ⟨rfl, hv, hn, rfl⟩ | hx
    · exact Or.inl ⟨rfl, hv, hn, rfl⟩
    · exact Or.inr hx
  · refine ⟨U, R, hp, Or.inr ⟨hb, ?_⟩⟩
    rcases hx with ⟨rfl, hv, h6, rfl⟩ | ⟨_, hx⟩
    · intro t i m hk
      obtain ⟨e, h3⟩ := key_list hk
      rw [hp.1, List.append_assoc] at e
      exact hn _ (six_one h6 (by have := hk.1.2.2.2.1; omega) (path_one hv h3 e).2).2
    · exact hx

theorem st4 {key : ByteArray} {v n m a a' : Nat} {x x' : Value} {U R : List UInt8} (h : StK key a x (fun U => v < 3 ∧ n ≤ 999999 ∧ U = pathL v ++ sixL n ++ [45]) U R) (hk : Keyed key R a x m a' x') : ∃ U R, StK key a' x' (fun U => v < 3 ∧ n ≤ 999999 ∧ m ≤ 999999 ∧ U = pathL v ++ sixL n ++ [45] ++ sixL m) U R := by
  obtain ⟨hp, hx⟩ := h
  rcases hk with ⟨rfl, rfl, hm, R', rfl⟩ | ⟨hb, hle, hn⟩
  · refine ⟨_, _, hp.on, ?_⟩
    rcases hx with ⟨rfl, hv, hn, rfl⟩ | hx
    · exact Or.inl ⟨rfl, hv, hn, hm, rfl⟩
    · exact Or.inr hx
  · obtain ⟨U', R', hp'⟩ := parted_of hle
    refine ⟨U', R', hp', Or.inr ⟨hb, ?_⟩⟩
    rcases hx with ⟨rfl, hv, h6, rfl⟩ | ⟨_, hx⟩
    · intro t i m hk
      obtain ⟨e, h3⟩ := key_list hk
      rw [hp.1, List.append_assoc, List.append_assoc] at e
      exact hn _ _ (List.append_cancel_left (six_one h6 (by have := hk.1.2.2.2.1; omega) (path_one hv h3 e).2).2)
    · exact hx

theorem st_end {key : ByteArray} {v n m a : Nat} {U R : List UInt8} (h : StK key a .nilIface (fun U => v < 3 ∧ n ≤ 999999 ∧ m ≤ 999999 ∧ U = pathL v ++ sixL n ++ [45] ++ sixL m) U R) : (a = key.size → IsKey key v n m) ∧ (a ≠ key.size → NoKey key) := by
  obtain ⟨hp, hx⟩ := h
  have hx' : v < 3 ∧ n ≤ 999999 ∧ m ≤ 999999 ∧ U = pathL v ++ sixL n ++ [45] ++ sixL m := by
    rcases hx with hx | ⟨⟨s, i, e⟩, _⟩
    · exact hx.2
    · cases e
  clear hx
  have hz := hp.size
  obtain ⟨hv, hn, hm, rfl⟩ := hx'
  refine ⟨fun e => ?_, fun e t i j hk => ?_⟩
  · obtain rfl : R = [] := List.length_eq_zero_iff.1 (by omega)
    refine ⟨⟨by omega, by omega, by omega, by omega, by omega, by omega⟩, ?_⟩
    apply ByteArray.ext
    apply Array.toList_inj.1
    rw [hp.1]
    simp [keyT, pathL, sixL, ByteArray.data_append, Array.toList_append]
  · obtain ⟨e1, h3⟩ := key_list hk
    rw [hp.1, List.append_assoc, List.append_assoc, List.append_assoc] at e1
    have e2 := congrArg List.length (path_one hv h3 e1).2
    simp [sixL_len] at e2
    omega

theorem nil_bad {x : Value} (h : x = .nilIface) (hb : Bad x) : False := by
  obtain ⟨s, n, e⟩ := hb
  rw [h] at e
  cases e

set_option maxRecDepth 100000 in
theorem readKey_any (key : ByteArray) (w : World) (hk : key.size ≤ 2 ^ 63 - 1) (hp : Paths w) (hz : 1 < w.heap.size) : Calls Tryd.prog 49 #[.string key] w fun e w' => ∃ t n m cd, e = .returned (.tuple #[.int .i64 t, .int .i64 n, .int .i64 m, .int .i64 cd]) ∧ KeyCode key t n m cd ∧ Below w.heap.size w w' := by
  have Hp := Lib.hid hp; clear hp
  have cW : (w.alloc (.cells #[.string key] 9)).cell? ⟨w.heap.size, 0, none⟩ = some (.string key) := by simp
  have CW := Lib.hid cW; clear cW
  have bW : Below w.heap.size w (w.alloc (.cells #[.string key] 9)) := bal (Below.refl _ _) _
  go_enter Tryd.func49, Tryd.ntmps49
  go_wp2_with fail
  refine (tooLong_any w.heap.size key _ CW.out hk).mono ?_
  rintro e w0 ⟨rfl, rfl⟩
  have sW : w.heap.size < (w.alloc (.cells #[.string key] 9)).heap.size := by simp
  generalize w.alloc (.cells #[.string key] 9) = w0 at *
  clear CW
  cases hl : decide (65536 < (key.size : Int))
  · have hs : key.size ≤ 65536 := by simp at hl; omega
    clear hl hk
    go_wp2_with fail
    have hSc := Scan.new w0 key 91
    have hb1 : Below w.heap.size w (w0.alloc (.cells #[.string key, .int .i64 0, .nilIface] 91)) := bal bW _
    generalize w0.alloc (.cells #[.string key, .int .i64 0, .nilIface] 91) = w1 at *
    have hB : w.heap.size ≤ w0.heap.size := Nat.le_of_lt sW
    generalize w0.heap.size = g at *
    have HSc := Lib.hid hSc; clear hSc bW
    have hs' : key.size ≤ 1048576 := by omega
    refine (tier_any w.heap.size g 0 key .nilIface [] key.data.toList w1 HSc.out ErrV.nil hB ⟨rfl, rfl⟩ hs' (Hp.out.below hb1 hz)).mono ?_
    rintro e w2 ⟨v, a2, x2, rfl, hS2, hT, hb2⟩
    have HS2 := Lib.hid hS2; clear hS2
    obtain ⟨U2, R2, hst⟩ := st1 hT
    have ST := Lib.hid hst; clear hst hT HSc
    have c2 := hb1.trans hb2
    clear hb1 hb2
    go_wp2_with fail
    refine (keyed_any w.heap.size g a2 key x2 U2 R2 w2 HS2.out ST.out.errV hB ST.out.1 hs').mono ?_
    rintro e w3 ⟨n, a3, x3, rfl, hS3, hK, hb3⟩
    have HS3 := Lib.hid hS3; clear hS3
    obtain ⟨U3, R3, hst⟩ := st2 ST.out hK
    have ST3 := Lib.hid hst; clear hst hK HS2 ST
    have c3 := c2.trans hb3
    clear hb3 c2
    go_wp2_with fail
    refine (mark_any w.heap.size g a3 key ⟨#[45]⟩ x3 U3 R3 w3 HS3.out ST3.out.errV hB ST3.out.1 hs' (by decide)).mono ?_
    rintro e w4 ⟨rfl, a4, x4, hS4, hM, hb4⟩
    have HS4 := Lib.hid hS4; clear hS4
    obtain ⟨U4, R4, hst⟩ := st3 ST3.out hM
    have ST4 := Lib.hid hst; clear hst hM HS3 ST3
    have c4 := c3.trans hb4
    clear hb4 c3
    go_wp2_with fail
    refine (keyed_any w.heap.size g a4 key x4 U4 R4 w4 HS4.out ST4.out.errV hB ST4.out.1 hs').mono ?_
    rintro e w5 ⟨m, a5, x5, rfl, hS5, hK, hb5⟩
    have HS5 := Lib.hid hS5; clear hS5
    obtain ⟨U5, R5, hst⟩ := st4 ST4.out hK
    have ST5 := Lib.hid hst; clear hst hK HS4 ST4
    have c5 := c4.trans hb5
    clear hb5 c4
    cases he : ((a5 : Int) == (key.size : Int))
    · go_wp2_with fail
      refine (atEnd_b g a5 key x5 false w5 HS5.out hs' he).mono ?_
      rintro e w6 ⟨rfl, hb6⟩
      have HS6 := Lib.hid (HS5.out.below hb6)
      have c6 : Below w.heap.size w w6 := c5.trans (hb6.mono (Nat.le_of_lt (Nat.lt_of_le_of_lt hB HS5.out.lt)))
      have hno : NoKey key := by
        rcases ST5.out.2 with ⟨e, _⟩ | ⟨_, h⟩
        · have h5 := ST5.out
          rw [e] at h5
          exact (st_end h5).2 (by intro e; simp at he; omega)
        · exact h
      have HN := Lib.hid hno; clear hno hb6 c5 he
      go_wp2_with fail
      refine (fail_any w.heap.size g a5 key _ x5 w6 HS6.out ST5.out.errV hB).mono ?_
      rintro e w7 ⟨rfl, y, ⟨s, i, rfl⟩, hS7, hb7⟩
      have c7 := c6.trans hb7
      have d2 := hS7.c2
      clear hS7 hb7 c6 ST5 HS5 HS6
      go_wp2
      exact bodyPost_ret (v := .tuple #[.int .i64 0, .int .i64 0, .int .i64 0, .int .i64 19]) (by simp [results, Tryd.results49, go_sem]) rfl ⟨0, 0, 0, 19, rfl, Or.inr (Or.inr ⟨hs, HN.out, rfl, rfl, rfl, rfl⟩), c7⟩
    · go_wp2_with fail
      refine (atEnd_b g a5 key x5 true w5 HS5.out hs' he).mono ?_
      rintro e w6 ⟨rfl, hb6⟩
      have HS6 := HS5.out.below hb6
      have c6 : Below w.heap.size w w6 := c5.trans (hb6.mono (Nat.le_of_lt (Nat.lt_of_le_of_lt hB HS5.out.lt)))
      rcases ST5.out.2 with ⟨rfl, _⟩ | ⟨⟨s, i, rfl⟩, hno⟩
      · have HK := Lib.hid ((st_end ST5.out).1 (by simp at he; omega))
        have d2 := HS6.c2
        clear HS6 HS5 ST5 hb6 c5 he
        go_wp2
        exact bodyPost_ret (v := .tuple #[.int .i64 v, .int .i64 n, .int .i64 m, .int .i64 0]) (by simp [results, Tryd.results49, go_sem]) rfl ⟨v, n, m, 0, rfl, Or.inr (Or.inl ⟨hs, HK.out, rfl⟩), c6⟩
      · have HN := Lib.hid hno; clear hno
        have d2 := HS6.c2
        clear HS6 HS5 ST5 hb6 c5 he
        go_wp2
        exact bodyPost_ret (v := .tuple #[.int .i64 0, .int .i64 0, .int .i64 0, .int .i64 19]) (by simp [results, Tryd.results49, go_sem]) rfl ⟨0, 0, 0, 19, rfl, Or.inr (Or.inr ⟨hs, HN.out, rfl, rfl, rfl, rfl⟩), c6⟩
  · have HL := Lib.hid (show 65536 < key.size by simp at hl; omega)
    clear hl
    go_wp2
    exact bodyPost_ret (v := .tuple #[.int .i64 0, .int .i64 0, .int .i64 0, .int .i64 2]) (by simp [results, Tryd.results49, go_sem]) rfl ⟨0, 0, 0, 2, rfl, Or.inl ⟨HL.out, rfl, rfl, rfl, rfl⟩, bW⟩

theorem isKey_one {key : ByteArray} {t n m t' n' m' : Int} (h : IsKey key t n m) (h' : IsKey key t' n' m') : t = t' ∧ n = n' ∧ m = m' := by
  obtain ⟨e, h3⟩ := key_list h
  obtain ⟨e', h3'⟩ := key_list h'
  rw [e] at e'
  obtain ⟨a1, a2, a3, a4, a5, a6⟩ := h.1
  obtain ⟨b1, b2, b3, b4, b5, b6⟩ := h'.1
  obtain ⟨q1, e'⟩ := path_one h3 h3' e'
  obtain ⟨q2, e'⟩ := six_one (by omega) (by omega) e'
  have e' := List.append_cancel_left e'
  rw [← List.append_nil (sixL m.toNat), ← List.append_nil (sixL m'.toNat)] at e'
  obtain ⟨q3, _⟩ := six_one (by omega) (by omega) e'
  omega

theorem keyCode_one {key : ByteArray} {t n m cd t' n' m' cd' : Int} (h : KeyCode key t n m cd) (h' : KeyCode key t' n' m' cd') : t = t' ∧ n = n' ∧ m = m' ∧ cd = cd' := by
  rcases h with ⟨h, rfl, rfl, rfl, rfl⟩ | ⟨h, hK, rfl⟩ | ⟨h, hN, rfl, rfl, rfl, rfl⟩ <;> rcases h' with ⟨k, rfl, rfl, rfl, rfl⟩ | ⟨k, kK, rfl⟩ | ⟨k, kN, rfl, rfl, rfl, rfl⟩
  · exact ⟨rfl, rfl, rfl, rfl⟩
  · omega
  · omega
  · omega
  · obtain ⟨rfl, rfl, rfl⟩ := isKey_one hK kK
    exact ⟨rfl, rfl, rfl, rfl⟩
  · exact absurd hK (kN _ _ _)
  · omega
  · exact absurd kK (hN _ _ _)
  · exact ⟨rfl, rfl, rfl, rfl⟩

end Go.Proofs.YtpackpocnonpiaaDoor
