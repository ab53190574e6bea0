/-
  Contracts of the program's isPast and of what asks for an orphan. Conditions: the program's table of paths is as its text lays it; a text's length.
-/
import Derived.Test.YthmpmagajbmpaaaDoorStpK
import Derived.Test.YthmpmagajbmpaaaDoorOrp
import Derived.Test.YthmpmagajbmpaaaDoorStrsA
namespace Go.Proofs.YthmpmagajbmpaaaDoor
open Go.ChangeShapes Go.WideShapes Go.ChangeAt Go.RowKit Go.Deep Go.Joins Go.Maps
set_option linter.unusedVariables false
set_option linter.unusedSimpArgs false

set_option maxRecDepth 100000 in
theorem isPast_any (A : Option Addr) (c : Nat) (A2 : Option Addr) (c2 : Nat) (s : GSt) (key : ByteArray) (w : World) (hk : key.size ≤ 2 ^ 63 - 1) (hp : Paths w) (hz : 2 < w.heap.size) :
    Calls Tryd.prog 59 #[.agg #[.int .i64 s.sq, .int .i64 s.fe, .slice A s.ents.length c, .slice A2 s.tmbs.length c2, .int .i64 s.lo.a, .int .i64 s.lo.b, .int .i64 s.lo.c, .int .i64 s.hi.a, .int .i64 s.hi.b, .int .i64 s.hi.c], .string key] w (IsBB (PastP s key) w) := by
  have Hp := Lib.hid hp; clear hp
  go_enter Tryd.func59, Tryd.ntmps59
  go_wp2_with fail
  have CA : Hid (Cells (w.alloc (.cells #[.int .i64 s.sq, .int .i64 s.fe, .slice A s.ents.length c, .slice A2 s.tmbs.length c2, .int .i64 s.lo.a, .int .i64 s.lo.b, .int .i64 s.lo.c, .int .i64 s.hi.a, .int .i64 s.hi.b, .int .i64 s.hi.c] 33)) w.heap.size 0 [.int .i64 s.sq, .int .i64 s.fe, .slice A s.ents.length c, .slice A2 s.tmbs.length c2, .int .i64 s.lo.a, .int .i64 s.lo.b, .int .i64 s.lo.c, .int .i64 s.hi.a, .int .i64 s.hi.b, .int .i64 s.hi.c]) := Lib.hid (Cells.new w _ _)
  have b0 : Below w.heap.size w (w.alloc (.cells #[.int .i64 s.sq, .int .i64 s.fe, .slice A s.ents.length c, .slice A2 s.tmbs.length c2, .int .i64 s.lo.a, .int .i64 s.lo.b, .int .i64 s.lo.c, .int .i64 s.hi.a, .int .i64 s.hi.b, .int .i64 s.hi.c] 33)) := bal (Below.refl _ _) _
  have s0 : w.heap.size < (w.alloc (.cells #[.int .i64 s.sq, .int .i64 s.fe, .slice A s.ents.length c, .slice A2 s.tmbs.length c2, .int .i64 s.lo.a, .int .i64 s.lo.b, .int .i64 s.lo.c, .int .i64 s.hi.a, .int .i64 s.hi.b, .int .i64 s.hi.c] 33)).heap.size := by simp
  have HPW := Lib.hid (Hp.out.below b0 hz)
  generalize w.alloc (.cells #[.int .i64 s.sq, .int .i64 s.fe, .slice A s.ents.length c, .slice A2 s.tmbs.length c2, .int .i64 s.lo.a, .int .i64 s.lo.b, .int .i64 s.lo.c, .int .i64 s.hi.a, .int .i64 s.hi.b, .int .i64 s.hi.c] 33) = W at *
  refine (readKey_any key W hk HPW.out (by omega)).mono ?_
  rintro e w1 ⟨t, n, m, cd, rfl, hK, hb⟩
  have b1 : Below w.heap.size w w1 := b0.trans (hb.mono (by omega))
  have C1 := CA.out.below hb s0
  obtain ⟨c0, c1, c2', c3, c4, c5, c6, c7, c8, c9⟩ := C1.ten
  clear C1 CA c2' c3 c4 c5 c6 c7 c8 c9 hb b0 s0 HPW
  rcases hK with ⟨hl, rfl, rfl, rfl, rfl⟩ | ⟨hl, hK, rfl⟩ | ⟨hl, hN, rfl, rfl, rfl, rfl⟩
  · have HN : Hid (¬ PastP s key) := Lib.hid (past_no fun t n m h => by have := isKey_size h; omega)
    clear hl
    go_wp2
    go_ret
    exact IsBB.no HN.out b1
  · have HI := Lib.hid (past_iff (s := s) hK)
    clear hl hK
    by_cases ht : t = 0
    · subst ht
      have HI2 : Hid (decide (n ≤ s.sq) = true ↔ PastP s key) := Lib.hid (by rw [HI.out]; simp)
      clear HI
      go_wp2
      go_ret
      exact ⟨_, HI2.out, rfl, b1⟩
    · have ht2 : (t == 0) = false := by simpa using ht
      have HI2 : Hid (decide (m < s.fe) = true ↔ PastP s key) := Lib.hid (by rw [HI.out]; simp [ht])
      clear HI ht
      go_wp2
      go_ret
      exact ⟨_, HI2.out, rfl, b1⟩
  · have HN : Hid (¬ PastP s key) := Lib.hid (past_no hN)
    clear hl hN
    go_wp2
    go_ret
    exact IsBB.no HN.out b1

/-- what the closure reads lies there: a box with the set, a box with the state -/
def OrpBox (x0 y m : Nat) (A : Option Addr) (c : Nat) (A2 : Option Addr) (c2 : Nat) (s : GSt) (w : World) : Prop :=
  Cells w x0 0 [.int .i64 s.sq, .int .i64 s.fe, .slice A s.ents.length c, .slice A2 s.tmbs.length c2, .int .i64 s.lo.a, .int .i64 s.lo.b, .int .i64 s.lo.c, .int .i64 s.hi.a, .int .i64 s.hi.b, .int .i64 s.hi.c] ∧ w.cell? ⟨y, 0, none⟩ = some (.map (some m)) ∧ TxtSet w m (keysAll s) ∧ x0 < w.heap.size ∧ y < w.heap.size

theorem OrpBox.step {x0 y m : Nat} {A A2 : Option Addr} {c c2 : Nat} {s : GSt} {w w' : World} (h : OrpBox x0 y m A c A2 c2 s w) (hb : Below w.heap.size w w') : OrpBox x0 y m A c A2 c2 s w' :=
  ⟨h.1.below hb h.2.2.2.1, (hb.cell (p := ⟨y, 0, none⟩) h.2.2.2.2).trans h.2.1, h.2.2.1.below hb, Nat.lt_of_lt_of_le h.2.2.2.1 hb.size, Nat.lt_of_lt_of_le h.2.2.2.2 hb.size⟩

set_option maxRecDepth 100000 in
theorem orph1_any (x0 y m : Nat) (A : Option Addr) (c : Nat) (A2 : Option Addr) (c2 : Nat) (s : GSt) (key : ByteArray) (w : World) (h : OrpBox x0 y m A c A2 c2 s w) (hk : key.size ≤ 2 ^ 63 - 1) (hp : Paths w) (hz : 2 < w.heap.size) :
    Calls Tryd.prog 58 #[.string key, .pointer (some ⟨y, 0, none⟩), .pointer (some ⟨x0, 0, none⟩)] w fun e w' => e = .returned (.bool (orphB s key)) ∧ Below w.heap.size w w' := by
  have Hp := Lib.hid hp; clear hp
  have hlk := h.2.2.1.look hk
  have hy := h.2.1
  obtain ⟨c0, c1, c2', c3, c4, c5, c6, c7, c8, c9⟩ := h.1.ten
  cases hm : memB key (keysAll s)
  · rw [hm] at hlk
    have HN : Hid (∀ b, (b = true ↔ PastP s key) → b = orphB s key) := Lib.hid fun b hb => by
      rw [Bool.eq_iff_iff, orphB_iff, hb]
      unfold OrphP
      have : key ∉ keysAll s := fun h => by rw [memB_iff.2 h] at hm; cases hm
      simp [this]
    clear hm h
    go_enter Tryd.func58, Tryd.ntmps58
    go_wp2_with fail
    refine (isPast_any A c A2 c2 s key w hk Hp.out hz).mono ?_
    rintro e w1 ⟨b, hb, rfl, hb1⟩
    have E := Lib.hid (HN.out b hb)
    clear hb hlk hy c0 c1 c2' c3 c4 c5 c6 c7 c8 c9
    go_wp2
    refine bodyPost_ret (v := .bool b) (by simp [results, Tryd.results58, go_sem]) rfl ⟨by rw [E.out], hb1⟩
  · rw [hm] at hlk
    have HN : Hid (orphB s key = false) := Lib.hid (Bool.eq_false_iff.2 fun h => (orphB_iff.1 h).1 (memB_iff.1 hm))
    clear hm h
    go_enter Tryd.func58, Tryd.ntmps58
    go_wp2
    refine bodyPost_ret (v := .bool false) (by simp [results, Tryd.results58, go_sem]) rfl ⟨by rw [HN.out], Below.refl _ _⟩

end Go.Proofs.YthmpmagajbmpaaaDoor
