/-
  Contracts of GetObject of both packages.
-/
import Derived.Test.YtkpaocejpjhkpaaGreatDoorOpenShelf
import Derived.Sort.Walk0
namespace Go.Proofs.YtkpaocejpjhkpaaGreatDoor
open Go.ChangeShapes Go.WideShapes Go.ChangeAt Go.RowKit Go.Maps
set_option linter.unusedVariables false

theorem bl_iff (a b : ByteArray) : bl a b = true ↔ a.data.toList < b.data.toList := by
  unfold bl
  rw [bytesLess_eq, ByteArray.toList_eq, ByteArray.toList_eq]
  simp

theorem key_lt {xs : List GObj} {next : Int} (hs : StoreP xs next) : ∀ (d i : Nat) (h : i + d + 1 < xs.length), xs[i].key.data.toList < xs[i + d + 1].key.data.toList
  | 0, i, h => (bl_iff _ _).1 (hs.2.2.2.2.1 i h h)
  | d + 1, i, h => List.lt_trans (key_lt hs d i (by omega)) ((bl_iff _ _).1 (hs.2.2.2.2.1 (i + d + 1) h h))

theorem key_ne {xs : List GObj} {next : Int} (hs : StoreP xs next) {i j : Nat} (hj : j < xs.length) (hij : i < j) : xs[i].key ≠ xs[j].key := by
  intro e
  have h := key_lt hs (j - i - 1) i (by omega)
  have e2 : i + (j - i - 1) + 1 = j := by omega
  simp only [e2] at h
  rw [e] at h
  exact List.lt_irrefl _ h

theorem look_none {xs : List GObj} {k : ByteArray} : look xs k = none ↔ ∀ i (h : i < xs.length), xs[i].key ≠ k := by
  unfold look
  rw [List.find?_eq_none]
  constructor
  · intro h i hi e
    exact h xs[i] (List.getElem_mem hi) (by simpa using e)
  · intro h o ho
    obtain ⟨i, hi, rfl⟩ := List.mem_iff_getElem.1 ho
    simpa using h i hi

theorem look_some {xs : List GObj} {k : ByteArray} {i : Nat} (hi : i < xs.length) (he : xs[i].key = k) (hn : ∀ j (h : j < xs.length), j < i → xs[j].key ≠ k) : look xs k = some xs[i] := by
  unfold look
  rw [List.find?_eq_some_iff_getElem]
  exact ⟨by simpa using he, i, hi, rfl, fun j hj => by simpa using hn j (by omega) hj⟩

theorem tell_none {xs : List GObj} {k : ByteArray} : ∀ n, n ≤ xs.length → (∀ i (h : i < xs.length), i < n → xs[i].key ≠ k) → tell xs n k = none
  | 0, _, _ => rfl
  | n + 1, hn, h => by
    rw [tell_succ xs n (by omega)]
    have := h n (by omega) (by omega)
    simp only [Ne.symm this, if_false]
    exact tell_none n (by omega) (fun i hi hin => h i hi (by omega))

theorem tell_some {xs : List GObj} {k : ByteArray} {i : Nat} (hi : i < xs.length) (he : xs[i].key = k) : ∀ n, i < n → n ≤ xs.length → (∀ j (h : j < xs.length), i < j → xs[j].key ≠ k) → tell xs n k = some xs[i]
  | 0, h, _, _ => by omega
  | n + 1, hin, hn, h => by
    rw [tell_succ xs n (by omega)]
    by_cases e : n = i
    · subst e
      simp [he]
    · have := h n (by omega) (by omega)
      simp only [Ne.symm this, if_false]
      exact tell_some hi he n (by omega) (by omega) h

theorem tell_look {xs : List GObj} {next : Int} (hs : StoreP xs next) (k : ByteArray) : tell xs xs.length k = look xs k := by
  by_cases h : ∃ i, ∃ hi : i < xs.length, xs[i].key = k
  · obtain ⟨i, hi, he⟩ := h
    rw [tell_some hi he xs.length hi (Nat.le_refl _) (fun j hj hij e => key_ne hs hj hij (he.trans e.symm)), look_some hi he (fun j hj hij e => key_ne hs hi hij (e.trans he.symm))]
  · have h' : ∀ i (hi : i < xs.length), xs[i].key ≠ k := fun i hi e => h ⟨i, hi, e⟩
    rw [tell_none xs.length (Nat.le_refl _) (fun i hi _ => h' i hi), look_none.2 h']

/-- where a key is found first; -1 of none -/
def FindP (xs : List GObj) (key : ByteArray) (v : Int) : Prop := (∃ i : Nat, ∃ h : i < xs.length, v = (i : Int) ∧ xs[i].key = key ∧ ∀ j (hj : j < xs.length), j < i → xs[j].key ≠ key) ∨ (v = -1 ∧ ∀ i (h : i < xs.length), xs[i].key ≠ key)

theorem find_any (A : Option Addr) (c : Nat) (next : Int) (xs : List GObj) (key : ByteArray) (B : Nat) (w : World) (h : ObjsAt w B A xs) (hB : B ≤ w.heap.size) (hl : xs.length ≤ 1048576) :
    Calls Tryz.prog 58 #[.agg #[.slice A xs.length c, .int .i64 next], .string key] w fun e w' => ∃ v, FindP xs key v ∧ e = .returned (.int .i64 v) ∧ Below w.heap.size w w' := by
  have H := Lib.hid h; clear h
  go_enter Tryz.func58, Tryz.ntmps58
  go_wp2_with fail
  obtain ⟨W, hW⟩ : ∃ W, W = w.alloc (.cells #[.slice A xs.length c, .int .i64 next] 28) := ⟨_, rfl⟩
  have t1 : Two W w.heap.size (.slice A xs.length c) (.int .i64 next) := by rw [hW]; exact Two.new _ _ _ _
  have b0 : Below w.heap.size w W := by rw [hW]; exact bal (Below.refl _ _) _
  rw [← hW]
  clear hW
  obtain ⟨t10, t11⟩ := t1
  go_loop [5] (fun i => ∃ k : Nat, k ≤ xs.length ∧ i = .int .i64 k ∧ Hid (∀ j (h : j < xs.length), j < k → xs[j].key ≠ key)) (fun i => xs.length - (intOf i).toNat)
  case atStart => exact ⟨0, by omega, rfl, Lib.hid (fun j _ h => by omega)⟩
  case round =>
    obtain ⟨k, hk, rfl, Hn⟩ := hrel
    by_cases hlt : k < xs.length
    · obtain ⟨b, off, rfl, hbB, p0, p1, p2⟩ := ObjsAt.obj (Sl.below H.out b0 hB) hlt
      by_cases he : xs[k].key = key
      · have hr : FindP xs key (k : Int) := .inl ⟨k, hlt, rfl, he, Hn.out⟩
        have Hr := Lib.hid hr; clear hr
        have d : (xs[k].key.toList == key.toList) = true := by rw [he]; simp
        clear he
        go_wp2
        go_ret
        exact ⟨k, Hr.out, rfl, b0⟩
      · have hn : ∀ j (h : j < xs.length), j < k + 1 → xs[j].key ≠ key := fun j hj hjk => by
          by_cases e : j = k
          · subst e; exact he
          · exact Hn.out j hj (by omega)
        have Hn2 := Lib.hid hn; clear hn
        have d := ne_list he
        clear he
        go_wp2
        go_round
        case rel => exact ⟨k + 1, by omega, by go_num, Hn2⟩
        case measure => simp [intOf]; omega
    · have hr : FindP xs key (-1) := .inr ⟨rfl, fun i hi => Hn.out i hi (by omega)⟩
      have Hr := Lib.hid hr; clear hr
      go_wp2
      go_ret
      exact ⟨-1, Hr.out, rfl, b0⟩

theorem look_of_find {xs : List GObj} {key : ByteArray} {v : Int} (h : FindP xs key v) : (v < 0 ∧ look xs key = none) ∨ (∃ i : Nat, ∃ hi : i < xs.length, v = (i : Int) ∧ look xs key = some xs[i]) := by
  rcases h with ⟨i, hi, rfl, he, hn⟩ | ⟨rfl, hn⟩
  · exact .inr ⟨i, hi, rfl, look_some hi he hn⟩
  · exact .inl ⟨by omega, look_none.2 hn⟩

/-- data and version of an object, or of none -/
theorem specGet_any (A : Option Addr) (c : Nat) (next : Int) (xs : List GObj) (key : ByteArray) (B : Nat) (w : World) (h : ObjsAt w B A xs) (hB : B ≤ w.heap.size) (hl : xs.length ≤ 1048576) :
    Calls Tryz.prog 56 #[.agg #[.slice A xs.length c, .int .i64 next], .string key] w fun e w' => e = .returned (.tuple #[.string (orZero (look xs key)).data, .int .i64 (orZero (look xs key)).ver]) ∧ Below w.heap.size w w' := by
  have H := Lib.hid h; clear h
  go_enter Tryz.func56, Tryz.ntmps56
  go_wp2_with fail
  obtain ⟨W, hW⟩ : ∃ W, W = w.alloc (.cells #[.slice A xs.length c, .int .i64 next] 28) := ⟨_, rfl⟩
  have t1 : Two W w.heap.size (.slice A xs.length c) (.int .i64 next) := by rw [hW]; exact Two.new _ _ _ _
  have b0 : Below w.heap.size w W := by rw [hW]; exact bal (Below.refl _ _) _
  have s0 : w.heap.size < W.heap.size := by rw [hW]; simp
  rw [← hW]
  clear hW
  have T0 := Lib.hid t1; clear t1
  refine (find_any A c next xs key B W (Sl.below H.out b0 hB) (by omega) hl).mono ?_
  rintro e w1 ⟨v, hv, rfl, hb1⟩
  have b1 := bnext b0 hb1
  rcases look_of_find hv with ⟨hneg, hlk⟩ | ⟨i, hi, rfl, hlk⟩
  · have d : decide (v < 0) = true := by simpa using hneg
    have Hlk := Lib.hid hlk; clear hlk hv hneg
    go_wp2
    go_ret2
    exact ⟨by rw [Hlk.out]; rfl, b1⟩
  · have Hlk := Lib.hid hlk; clear hlk hv
    have d : decide ((i : Int) < 0) = false := by simp
    obtain ⟨t10, t11⟩ := T0.out.below hb1 s0
    obtain ⟨b, off, rfl, hbB, p0, p1, p2⟩ := ObjsAt.obj (Sl.below H.out b1 hB) hi
    have i0 : (0 : Int) ≤ (i : Int) := by omega
    have i1 : (i : Int) < (xs.length : Int) := by omega
    go_wp2_with fail
    go_quiet (fail)
    go_wp2
    go_ret2
    exact ⟨by rw [Hlk.out]; rfl, bdrewN b1 _⟩

theorem FaultP.one {xs : List GObj} {next : Int} {key : ByteArray} {ts : List ByteArray} {a b : Int} (h : FaultP xs next key ts a) (h' : FaultP xs next key ts b) : b = a := by
  rcases h with ⟨a1, rfl⟩ | ⟨a1, a2, rfl⟩ | ⟨a1, a2, a3, rfl⟩ | ⟨a1, a2, a3, rfl⟩ <;>
    rcases h' with ⟨b1, rfl⟩ | ⟨b1, b2, rfl⟩ | ⟨b1, b2, b3, rfl⟩ | ⟨b1, b2, b3, rfl⟩ <;>
    first | rfl | (exfalso; first | exact a1 b1 | exact b1 a1 | exact a2 b2 | exact b2 a2 | exact a3 b3 | exact b3 a3)

theorem FaultP.zero {xs : List GObj} {next : Int} {key : ByteArray} {ts : List ByteArray} (h : FaultP xs next key ts 0) : StoreP xs next ∧ KeyP key := by
  rcases h with ⟨_, h⟩ | ⟨_, _, h⟩ | ⟨_, _, _, h⟩ | ⟨_, a2, a3, _⟩
  · cases h
  · cases h
  · cases h
  · exact ⟨a2, a3⟩

/-- what GetObject answers -/
def GetR (xs : List GObj) (next : Int) (key : ByteArray) (d : ByteArray) (v code : Int) : Prop :=
  (FaultP xs next key [] code ∧ code ≠ 0 ∧ d = ⟨#[]⟩ ∧ v = 0) ∨ (FaultP xs next key [] 0 ∧ look xs key = none ∧ d = ⟨#[]⟩ ∧ v = 0 ∧ code = 5) ∨ (∃ o, FaultP xs next key [] 0 ∧ look xs key = some o ∧ d = o.data ∧ v = o.ver ∧ code = 0)

theorem GetR.one {xs : List GObj} {next : Int} {key d d' : ByteArray} {v v' code code' : Int} (h : GetR xs next key d v code) (h' : GetR xs next key d' v' code') : d' = d ∧ v' = v ∧ code' = code := by
  rcases h with ⟨f, n, rfl, rfl⟩ | ⟨f, l, rfl, rfl, rfl⟩ | ⟨o, f, l, rfl, rfl, rfl⟩
  · rcases h' with ⟨f', n', rfl, rfl⟩ | ⟨f', l', rfl, rfl, rfl⟩ | ⟨o', f', l', rfl, rfl, rfl⟩
    · exact ⟨rfl, rfl, f.one f'⟩
    · exact absurd (f.one f').symm n
    · exact absurd (f.one f').symm n
  · rcases h' with ⟨f', n', rfl, rfl⟩ | ⟨f', l', rfl, rfl, rfl⟩ | ⟨o', f', l', rfl, rfl, rfl⟩
    · exact absurd (f'.one f).symm n'
    · exact ⟨rfl, rfl, rfl⟩
    · rw [l] at l'; cases l'
  · rcases h' with ⟨f', n', rfl, rfl⟩ | ⟨f', l', rfl, rfl, rfl⟩ | ⟨o', f', l', rfl, rfl, rfl⟩
    · exact absurd (f'.one f).symm n'
    · rw [l] at l'; cases l'
    · rw [l] at l'; injection l' with l'; subst l'; exact ⟨rfl, rfl, rfl⟩

/-- a text, a version and a code are answered; nothing old has turned -/
def IsGet (R : ByteArray → Int → Int → Prop) (w : World) (e : Ending) (w' : World) : Prop := ∃ d v code, R d v code ∧ e = .returned (.tuple #[.string d, .int .i64 v, .int .i64 code]) ∧ Below w.heap.size w w'

set_option maxRecDepth 100000 in
theorem getObject_any (A : Option Addr) (c : Nat) (next : Int) (xs : List GObj) (key : ByteArray) (B : Nat) (w : World) (h : ObjsAt w B A xs) (hB : B ≤ w.heap.size) (hf : ∀ o ∈ xs, o.fit) (hl : xs.length ≤ 1048576) (hk : key.size ≤ maxLen) :
    Calls Tryz.prog 64 #[.agg #[.slice A xs.length c, .int .i64 next], .string key] w (IsGet (GetR xs next key) w) := by
  have H := Lib.hid h; clear h
  have Hf := Lib.hid hf; clear hf
  have Hk := Lib.hid hk; clear hk
  go_enter Tryz.func64, Tryz.ntmps64
  go_wp2_with fail
  obtain ⟨W, hW⟩ : ∃ W, W = w.alloc (.cells #[.slice A xs.length c, .int .i64 next] 28) := ⟨_, rfl⟩
  have t1 : Two W w.heap.size (.slice A xs.length c) (.int .i64 next) := by rw [hW]; exact Two.new _ _ _ _
  have b0 : Below w.heap.size w W := by rw [hW]; exact bal (Below.refl _ _) _
  have s0 : w.heap.size < W.heap.size := by rw [hW]; simp
  rw [← hW]
  clear hW
  have T0 := Lib.hid t1; clear t1
  refine (fault_any A c next xs key none 0 [] B W (Sl.below H.out b0 hB) Sl.nil (by omega) Hf.out hl Hk.out (by simp) (by simp)).mono ?_
  rintro e w1 ⟨code, hc, rfl, hb1⟩
  have b1 := bnext b0 hb1
  by_cases hz : code = 0
  · subst hz
    have Hc := Lib.hid hc; clear hc
    have s1 : w.heap.size < w1.heap.size := Nat.lt_of_lt_of_le s0 hb1.size
    obtain ⟨t10, t11⟩ := T0.out.below hb1 s0
    clear hb1
    go_wp2_with fail
    refine (open_any A c next xs B w1 (Sl.below H.out b1 hB) (by omega) Hf.out (FaultP.zero Hc.out).1.2.2.1).mono ?_
    rintro e w2 ⟨g, m, rfl, hsh, hg0, hm0, hb2⟩
    have b2 := bnext b1 hb2
    clear hb2
    obtain ⟨⟨q0, q1⟩, _, hM, _, _⟩ := hsh
    have hlk := hM.look Hk.out
    rw [tell_look (FaultP.zero Hc.out).1 key] at hlk
    clear hM
    cases hf2 : look xs key with
    | none =>
      have hr : GetR xs next key ⟨#[]⟩ 0 5 := .inr (.inl ⟨Hc.out, hf2, rfl, rfl, rfl⟩)
      have Hr := Lib.hid hr; clear hr
      rw [hf2] at hlk
      clear hf2
      simp only [orZero, zObj, Option.isSome_none] at hlk
      go_wp2
      go_ret3
      exact ⟨_, _, _, Hr.out, rfl, bal b2 _⟩
    | some o =>
      have hr : GetR xs next key o.data o.ver 0 := .inr (.inr ⟨o, Hc.out, hf2, rfl, rfl, rfl⟩)
      have Hr := Lib.hid hr; clear hr
      rw [hf2] at hlk
      clear hf2
      simp only [orZero, Option.isSome_some] at hlk
      go_wp2_with fail
      go_quiet (fail)
      go_wp2
      go_ret3
      exact ⟨_, _, _, Hr.out, rfl, bdrewN (bal b2 _) _⟩
  · have hr : GetR xs next key ⟨#[]⟩ 0 code := .inl ⟨hc, hz, rfl, rfl⟩
    have Hr := Lib.hid hr; clear hr
    have d2 : (code != 0) = true := by simpa using hz
    have d3 : (code == 0) = false := by simpa using hz
    clear hz hc
    go_wp2
    go_ret3
    exact ⟨_, _, _, Hr.out, rfl, b1⟩

end Go.Proofs.YtkpaocejpjhkpaaGreatDoor
