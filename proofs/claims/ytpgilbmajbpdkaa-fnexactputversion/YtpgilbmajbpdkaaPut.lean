/-
  Contracts of the shelf's versionFault and put, and of delete on its map.
-/
import Derived.Test.YtpgilbmajbpdkaaSets
import Derived.Test.YtpgilbmajbpdkaaApp
namespace Go.Proofs.Ytpgilbmajbpdkaa
open Go.ChangeShapes Go.WideShapes Go.ChangeAt Go.RowKit Go.Maps
set_option linter.unusedVariables false

theorem Shelf.under {w w' : World} {g m n B : Nat} {next : Int} {f : ByteArray → Option GObj} (h : Shelf w g m n next f) (hb : Below B w w') (hg : g < B) (hm : m < B) : Shelf w' g m n next f :=
  ⟨h.1.below hb hg, fun i => (hb.frozen (p := ⟨g, i, none⟩) hg).trans (h.2.1 i), h.2.2.1.under hb hm, h.2.2.2.1, Nat.lt_of_lt_of_le h.2.2.2.2 hb.size⟩

theorem Shelf.below {w w' : World} {g m n : Nat} {next : Int} {f : ByteArray → Option GObj} (h : Shelf w g m n next f) (hb : Below w.heap.size w w') : Shelf w' g m n next f :=
  h.under hb h.2.2.2.2 h.2.2.1.lt

/-- what versionFault finds -/
def VerP (L : List GObj) (key : ByteArray) (ver code : Int) : Prop :=
  (look L key = none ∧ code = 5) ∨ (∃ o, look L key = some o ∧ o.ver ≠ ver ∧ code = 10) ∨ (∃ o, look L key = some o ∧ o.ver = ver ∧ code = 0)

set_option maxRecDepth 100000 in
theorem ver_any (g m n : Nat) (next : Int) (L : List GObj) (key : ByteArray) (ver : Int) (w : World) (h : Shelf w g m n next (look L)) (hk : key.size ≤ maxLen) :
    Calls Try.prog 51 #[.pointer (some ⟨g, 0, none⟩), .string key, .int .i64 ver] w fun e w' => ∃ code, VerP L key ver code ∧ e = .returned (.int .i64 code) ∧ Below w.heap.size w w' := by
  obtain ⟨⟨tg0, tg1⟩, _, hm, hgm, hg⟩ := h
  have hlk := hm.look hk
  clear hm
  cases hf : look L key with
  | none =>
    have hr : VerP L key ver 5 := .inl ⟨hf, rfl⟩
    rw [hf] at hlk
    simp only [orZero, Option.isSome] at hlk
    have Hr := Lib.hid hr; clear hr hf
    go_enter Try.func51, Try.ntmps51
    go_wp2
    go_ret
    exact ⟨5, Hr.out, rfl, bal (Below.refl _ _) _⟩
  | some o =>
    rw [hf] at hlk
    simp only [orZero, Option.isSome] at hlk
    by_cases hv : o.ver = ver
    · have hr : VerP L key ver 0 := .inr (.inr ⟨o, hf, hv, rfl⟩)
      have Hr := Lib.hid hr; clear hr hf
      have d : (o.ver == ver) = true := by simpa using hv
      clear hv
      go_enter Try.func51, Try.ntmps51
      go_wp2
      go_ret
      exact ⟨0, Hr.out, rfl, bal (Below.refl _ _) _⟩
    · have hr : VerP L key ver 10 := .inr (.inl ⟨o, hf, hv, rfl⟩)
      have Hr := Lib.hid hr; clear hr hf
      have d : (o.ver == ver) = false := by simpa using hv
      clear hv
      go_enter Try.func51, Try.ntmps51
      go_wp2
      go_ret
      exact ⟨10, Hr.out, rfl, bal (Below.refl _ _) _⟩

/-- what put answers, and what is on the shelf then -/
def PutP (L : List GObj) (next : Int) (key data : ByteArray) (ver code : Int) (L' : List GObj) (next' : Int) : Prop :=
  (600 < data.size ∧ ver = 0 ∧ code = 8 ∧ L' = L ∧ next' = next) ∨
  (¬ 600 < data.size ∧ ((look L key = none ∧ 300 ≤ L.length) ∨ 1000000000 ≤ next) ∧ ver = 0 ∧ code = 7 ∧ L' = L ∧ next' = next) ∨
  (¬ 600 < data.size ∧ ¬ ((look L key = none ∧ 300 ≤ L.length) ∨ 1000000000 ≤ next) ∧ ver = next ∧ code = 0 ∧ L' = setL L ⟨key, next, data⟩ ∧ next' = next + 1)

/-- what put leaves -/
def PutEnd (g m n : Nat) (L : List GObj) (next : Int) (key data : ByteArray) (w : World) (e : Ending) (w' : World) : Prop :=
  ∃ ver code L' next', PutP L next key data ver code L' next' ∧ e = .returned (.tuple #[.int .i64 ver, .int .i64 code]) ∧ Shelf w' g m (n + 1) next' (look L') ∧ ∀ B, B ≤ g → B ≤ m → B ≤ w.heap.size → Below B w w'

theorem Shelf.more {w : World} {g m n : Nat} {next : Int} {f : ByteArray → Option GObj} (h : Shelf w g m n next f) : Shelf w g m (n + 1) next f := by
  obtain ⟨h1, h2, ⟨D, hD, hT⟩, h4⟩ := h
  exact ⟨h1, h2, ⟨D, hD.mono (by omega), hT⟩, h4⟩

set_option maxRecDepth 100000 in
set_option maxHeartbeats 1000000 in
theorem put_any (g m n : Nat) (next : Int) (L : List GObj) (key data : ByteArray) (w : World) (h : Shelf w g m n next (look L)) (hr : Rise L) (hn : n < 1000) (hk : key.size ≤ maxLen) (hd : data.size ≤ maxLen) (hnx : 0 ≤ next ∧ next ≤ 1000000000) :
    Calls Try.prog 47 #[.pointer (some ⟨g, 0, none⟩), .string key, .string data] w (PutEnd g m n L next key data w) := by
  have HS := Lib.hid h
  obtain ⟨⟨tg0, tg1⟩, hfz, hm, hgm, hg⟩ := h
  have hlk := hm.look hk
  have hmw := hm.lt
  obtain ⟨D, hown, hT⟩ := hm
  have hlen : ∀ o, (Builtin.len_ #[65] 3 #[.map (some m)]).run Try.prog (w.alloc o) = .ok (.int .i64 L.length) (w.alloc o) := fun o => by
    have h1 := (hown.alloc o).len Try.underlying65 3
    rw [keys_size hown hT hr] at h1
    exact h1
  clear hown hT
  have hf1 := hfz 1
  clear hfz
  have hun : ∀ o ver code, PutP L next key data ver code L next → PutEnd g m n L next key data w (.returned (.tuple #[.int .i64 ver, .int .i64 code])) (w.alloc o) := fun o ver code hp =>
    ⟨ver, code, L, next, hp, rfl, (HS.out.below (bal (Below.refl _ _) o)).more, fun B _ _ hB => (bal (Below.refl _ _) o).mono hB⟩
  have HUN := Lib.hid hun; clear hun
  by_cases l1 : 600 < data.size
  · have d1 : decide (600 < (data.size : Int)) = true := by simp; omega
    have hp : PutP L next key data 0 8 L next := .inl ⟨l1, rfl, rfl, rfl, rfl⟩
    have HP := Lib.hid hp; clear hp
    go_enter Try.func47, Try.ntmps47
    go_wp2
    exact bodyPost_ret (v := .tuple #[.int .i64 0, .int .i64 8]) (by simp [results, Try.results47, go_sem]) rfl (HUN.out _ _ _ HP.out)
  have d1 : decide (600 < (data.size : Int)) = false := by simp; omega
  by_cases l2 : look L key = none ∧ 300 ≤ L.length
  · have hp : PutP L next key data 0 7 L next := .inr (.inl ⟨l1, .inl l2, rfl, rfl, rfl, rfl⟩)
    have HP := Lib.hid hp; clear hp
    rw [l2.1] at hlk
    simp only [orZero, Option.isSome] at hlk
    have hlen1 := hlen (.cells #[.string zObj.key, .int .i64 zObj.ver, .string zObj.data] 40)
    have d2 : decide (300 ≤ (L.length : Int)) = true := by simp; omega
    clear l1 l2 hlen
    go_enter Try.func47, Try.ntmps47
    go_wp2
    exact bodyPost_ret (v := .tuple #[.int .i64 0, .int .i64 7]) (by simp [results, Try.results47, go_sem]) rfl (HUN.out _ _ _ HP.out)
  by_cases l3 : 1000000000 ≤ next
  · have hp : PutP L next key data 0 7 L next := .inr (.inl ⟨l1, .inr l3, rfl, rfl, rfl, rfl⟩)
    have HP := Lib.hid hp; clear hp
    have d3 : decide (1000000000 ≤ next) = true := by simpa using l3
    cases hlo : look L key with
    | none =>
      rw [hlo] at hlk
      simp only [orZero, Option.isSome] at hlk
      have hlen1 := hlen (.cells #[.string zObj.key, .int .i64 zObj.ver, .string zObj.data] 40)
      have d2 : decide (300 ≤ (L.length : Int)) = false := by have : ¬ 300 ≤ L.length := (fun h => l2 ⟨hlo, h⟩); simp; omega
      clear l1 l2 l3 hlen hlo
      go_enter Try.func47, Try.ntmps47
      go_wp2
      exact bodyPost_ret (v := .tuple #[.int .i64 0, .int .i64 7]) (by simp [results, Try.results47, go_sem]) rfl (HUN.out _ _ _ HP.out)
    | some o =>
      rw [hlo] at hlk
      simp only [orZero, Option.isSome] at hlk
      clear l1 l2 l3 hlen hlo
      go_enter Try.func47, Try.ntmps47
      go_wp2
      exact bodyPost_ret (v := .tuple #[.int .i64 0, .int .i64 7]) (by simp [results, Try.results47, go_sem]) rfl (HUN.out _ _ _ HP.out)
  have d3 : decide (1000000000 ≤ next) = false := by simpa using l3
  have hp : PutP L next key data next 0 (setL L ⟨key, next, data⟩) (next + 1) := .inr (.inr ⟨l1, (fun h => h.elim l2 l3), rfl, rfl, rfl, rfl⟩)
  have HP := Lib.hid hp; clear hp
  obtain ⟨W, hW⟩ : ∃ W, W = w.alloc (.cells #[.string (orZero (look L key)).key, .int .i64 (orZero (look L key)).ver, .string (orZero (look L key)).data] 40) := ⟨_, rfl⟩
  have hbW : Below w.heap.size w W := by rw [hW]; exact bal (Below.refl _ _) _
  obtain ⟨⟨ta0, ta1⟩, hfa, hma, _, hga⟩ := HS.out.below hbW
  obtain ⟨w3, hrun, hm3, hg3⟩ := hma.put (by simp only [maxLen]; omega) hk ⟨key, next, data⟩
  have he3 : (fun x => if x = key then some (⟨key, next, data⟩ : GObj) else look L x) = look (setL L ⟨key, next, data⟩) := by
    funext x
    rw [setL_look]
  rw [he3] at hm3
  clear he3
  have T3 : Two w3 g (.map (some m)) (.int .i64 next) := Two.grown ⟨ta0, ta1⟩ hg3 hga (fun g' e => by injection e with e; omega)
  have F3 : ∀ i, w3.frozen? ⟨g, i, none⟩ = false := fun i => (World.frozen?_of_block (a := ⟨g, i, none⟩) (hg3.block g hga (fun e => by injection e with e; omega))).trans (hfa i)
  have S4 : Shelf (w3.setCell ⟨g, 1, none⟩ (.int .i64 (next + 1))) g m (n + 1) (next + 1) (look (setL L ⟨key, next, data⟩)) :=
    ⟨T3.set1 _, fun i => (frozen_setCell _ _ _ _).trans (F3 i), hm3.far (p := ⟨g, 1, none⟩) (fun e => hgm e.symm) _, hgm, by rw [size_setCell]; exact Nat.lt_of_lt_of_le hga hg3.size⟩
  have B4 : ∀ B, B ≤ g → B ≤ m → B ≤ w.heap.size → Below B w (w3.setCell ⟨g, 1, none⟩ (.int .i64 (next + 1))) := fun B h1 h2 h3 =>
    ((hbW.mono h3).trans (below_of_grown hg3 (Nat.le_trans h3 hbW.size) (fun g' e => by injection e with e; omega))).setCell h1 _
  have HE := Lib.hid (show PutEnd g m n L next key data w (.returned (.tuple #[.int .i64 next, .int .i64 0])) (w3.setCell ⟨g, 1, none⟩ (.int .i64 (next + 1))) from ⟨next, 0, _, _, HP.out, rfl, S4, B4⟩)
  obtain ⟨t30, t31⟩ := T3
  have f31 := F3 1
  clear S4 B4 hm3 hg3 hma HP hfa F3 HS HUN hbW
  have hwr : wrap64 (next + 1) = next + 1 := by simp only [wrap64]; omega
  cases hlo : look L key with
  | none =>
    rw [hlo] at hlk hW
    simp only [orZero, Option.isSome] at hlk hW
    have hlen1 := hlen (.cells #[.string zObj.key, .int .i64 zObj.ver, .string zObj.data] 40)
    have d2 : decide (300 ≤ (L.length : Int)) = false := by have : ¬ 300 ≤ L.length := (fun h => l2 ⟨hlo, h⟩); simp; omega
    clear l1 l2 l3 hlen hlo
    subst hW
    go_enter Try.func47, Try.ntmps47
    go_wp2
    exact bodyPost_ret (v := .tuple #[.int .i64 next, .int .i64 0]) (by simp [results, Try.results47, go_sem]) rfl HE.out
  | some o =>
    rw [hlo] at hlk hW
    simp only [orZero, Option.isSome] at hlk hW
    clear l1 l2 l3 hlen hlo
    subst hW
    go_enter Try.func47, Try.ntmps47
    go_wp2
    exact bodyPost_ret (v := .tuple #[.int .i64 next, .int .i64 0]) (by simp [results, Try.results47, go_sem]) rfl HE.out

end Go.Proofs.Ytpgilbmajbpdkaa
