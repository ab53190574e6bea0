/-
  Contracts of the shelf's versionFault and put, and of delete on its map.
-/
import Derived.Test.YtpgilbmajbpdkabSets
import Derived.Test.YtpgilbmajbpdkabApp
namespace Go.Proofs.Ytpgilbmajbpdkab
open Go.ChangeShapes Go.WideShapes Go.ChangeAt Go.RowKit Go.Maps
set_option linter.unusedVariables false

theorem Shelf.under {w w' : World} {g m n B : Nat} {next : Int} {f : ByteArray → Option GObj} (h : Shelf w g m n next f) (hb : Below B w w') (hg : g < B) (hm : m < B) : Shelf w' g m n next f :=
  ⟨h.1.below hb hg, fun i => (hb.frozen (p := ⟨g, i, none⟩) hg).trans (h.2.1 i), h.2.2.1.under hb hm, h.2.2.2.1, Nat.lt_of_lt_of_le h.2.2.2.2 hb.size⟩

theorem Shelf.below {w w' : World} {g m n : Nat} {next : Int} {f : ByteArray → Option GObj} (h : Shelf w g m n next f) (hb : Below w.heap.size w w') : Shelf w' g m n next f :=
  h.under hb h.2.2.2.2 h.2.2.1.lt

/-- what versionFault finds -/
def VerP (L : List GObj) (key : ByteArray) (ver code : Int) : Prop :=
  (look L key = none ∧ code = 5) ∨ (∃ o, look L key = some o ∧ o.ver ≠ ver ∧ code = 10) ∨ (∃ o, look L key = some o ∧ o.ver = ver ∧ code = 0)

set_option maxRecDepth 100000 in
theorem ver_any (g m n : Nat) (next : Int) (L : List GObj) (key : ByteArray) (ver : Int) (w : World) (h : Shelf w g m n next (look L)) (hk : key.size ≤ maxLen) :
    Calls Try.prog 27 #[.pointer (some ⟨g, 0, none⟩), .string key, .int .i64 ver] w fun e w' => ∃ code, VerP L key ver code ∧ e = .returned (.int .i64 code) ∧ Below w.heap.size w w' := by
  obtain ⟨⟨tg0, tg1⟩, _, hm, hgm, hg⟩ := h
  have hlk := hm.look hk
  clear hm
  cases hf : look L key with
  | none =>
    have hr : VerP L key ver 5 := .inl ⟨hf, rfl⟩
    rw [hf] at hlk
    simp only [orZero, Option.isSome] at hlk
    have Hr := Lib.hid hr; clear hr hf
    go_enter Try.func27, Try.ntmps27
    go_wp2
    go_ret
    exact ⟨5, Hr.out, rfl, bal (Below.refl _ _) _⟩
  | some o =>
    rw [hf] at hlk
    simp only [orZero, Option.isSome] at hlk
    by_cases hv : o.ver = ver
    · have hr : VerP L key ver 0 := .inr (.inr ⟨o, hf, hv, rfl⟩)
      have Hr := Lib.hid hr; clear hr hf
      have d : (o.ver == ver) = true := by simpa using hv
      clear hv
      go_enter Try.func27, Try.ntmps27
      go_wp2
      go_ret
      exact ⟨0, Hr.out, rfl, bal (Below.refl _ _) _⟩
    · have hr : VerP L key ver 10 := .inr (.inl ⟨o, hf, hv, rfl⟩)
      have Hr := Lib.hid hr; clear hr hf
      have d : (o.ver == ver) = false := by simpa using hv
      clear hv
      go_enter Try.func27, Try.ntmps27
      go_wp2
      go_ret
      exact ⟨10, Hr.out, rfl, bal (Below.refl _ _) _⟩

/-- what put answers, and what is on the shelf then -/
def PutP (L : List GObj) (next : Int) (key data : ByteArray) (ver code : Int) (L' : List GObj) (next' : Int) : Prop :=
  (600 < data.size ∧ ver = 0 ∧ code = 8 ∧ L' = L ∧ next' = next) ∨
  (¬ 600 < data.size ∧ ((look L key = none ∧ 300 ≤ L.length) ∨ 1000000000 ≤ next) ∧ ver = 0 ∧ code = 7 ∧ L' = L ∧ next' = next) ∨
  (¬ 600 < data.size ∧ ¬ ((look L key = none ∧ 300 ≤ L.length) ∨ 1000000000 ≤ next) ∧ ver = next ∧ code = 0 ∧ L' = setL L ⟨key, next, data⟩ ∧ next' = next + 1)

/-- what put leaves -/
def PutEnd (g m n : Nat) (L : List GObj) (next : Int) (key data : ByteArray) (w : World) (e : Ending) (w' : World) : Prop :=
  ∃ ver code L' next', PutP L next key data ver code L' next' ∧ e = .returned (.tuple #[.int .i64 ver, .int .i64 code]) ∧ Shelf w' g m (n + 1) next' (look L') ∧ ∀ B, B ≤ g → B ≤ m → B ≤ w.heap.size → Below B w w'

theorem Shelf.more {w : World} {g m n : Nat} {next : Int} {f : ByteArray → Option GObj} (h : Shelf w g m n next f) : Shelf w g m (n + 1) next f := by
  obtain ⟨h1, h2, ⟨D, hD, hT⟩, h4⟩ := h
  exact ⟨h1, h2, ⟨D, hD.mono (by omega), hT⟩, h4⟩

end Go.Proofs.Ytpgilbmajbpdkab
