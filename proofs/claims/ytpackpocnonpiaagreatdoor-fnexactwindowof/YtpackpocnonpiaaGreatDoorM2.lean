/-
  Several texts as one: contracts that the law leans on; each part says what it proves and its conditions.
-/
import Derived.Test.YtpackpocnonpiaaGreatDoorM1
import Derived.Test.YtpackpocnonpiaaGreatDoorPuts
import Derived.Test.YtpackpocnonpiaaGreatDoorAggLaw
import Derived.Laws.StructEq
import Derived.Test.YtpackpocnonpiaaGreatDoorAgg
import Derived.Lib.Hide
import Derived.Test.YtpackpocnonpiaaGreatDoorMem
import Derived.Test.YtpackpocnonpiaaGreatDoorBytes
import Derived.Test.YtpackpocnonpiaaGreatDoorShelf
import Derived.Deep.QuietTactic
import Derived.BigQuiet
import Derived.Outline
import Derived.Test.YtpackpocnonpiaaGreatDoorTxtB
import Derived.Deep.RegionHeld3
import Derived.Deep.RegionWith
import Derived.Test.YtpackpocnonpiaaGreatDoorCutUp

/- Contracts of the laws' copying helpers over stores: sz (how much room is left), to (a copy in new memory). -/
namespace Go.Proofs.YtpackpocnonpiaaGreatDoor
open Go.ChangeShapes Go.WideShapes Go.ChangeAt Go.RowKit
set_option linter.unusedVariables false

def GObj.small (o : GObj) : Prop := o.key.size ≤ 1048576 ∧ o.data.size ≤ 1048576

def GObj.fits (o : GObj) : Prop := o.key.size ≤ maxLen ∧ o.data.size ≤ maxLen

/-- a number is answered that, if it is not below 0, is at most what it was and says P; nothing old has turned -/
def Left (P : Prop) (left : Int) (w : World) (e : Ending) (w' : World) : Prop := ∃ v : Int, (0 ≤ v → P ∧ v ≤ left) ∧ -1 ≤ v ∧ v ≤ 1048576 ∧ e = .returned (.int .i64 v) ∧ Below w.heap.size w w'

theorem szObject_any (o : GObj) (left : Int) (w : World) (ho : o.fits) (h0 : 0 ≤ left) (h1 : left ≤ 1048576) :
    Calls Tryz.prog 107 #[.agg #[.string o.key, .int .i64 o.ver, .string o.data], .int .i64 left] w (Left o.small left w) := by
  obtain ⟨ok, od⟩ := ho
  unfold maxLen at ok od
  by_cases c1 : left - (o.key.size : Int) < 0
  · have d1 : decide (left - (o.key.size : Int) < 0) = true := by simpa using c1
    go_enter Tryz.func107, Tryz.ntmps107
    go_wp2
    go_ret
    exact ⟨-1, fun h => by omega, by omega, by omega, rfl, (Below.refl _ _).alloc (Nat.le_refl _) _⟩
  · have d1 : decide (left - (o.key.size : Int) < 0) = false := by simpa using c1
    by_cases c2 : left - (o.key.size : Int) - (o.data.size : Int) < 0
    · have d2 : decide (left - (o.key.size : Int) - (o.data.size : Int) < 0) = true := by simpa using c2
      go_enter Tryz.func107, Tryz.ntmps107
      go_wp2
      go_ret
      exact ⟨-1, fun h => by omega, by omega, by omega, rfl, (Below.refl _ _).alloc (Nat.le_refl _) _⟩
    · have d2 : decide (left - (o.key.size : Int) - (o.data.size : Int) < 0) = false := by simpa using c2
      go_enter Tryz.func107, Tryz.ntmps107
      go_wp2
      go_ret
      exact ⟨_, fun h => ⟨⟨by omega, by omega⟩, by omega⟩, by omega, by omega, rfl, (Below.refl _ _).alloc (Nat.le_refl _) _⟩

theorem szObjectS_any (A : Option Addr) (c : Nat) (xs : List GObj) (left : Int) (B : Nat) (w : World) (h : ObjsAt w B A xs) (hB : B ≤ w.heap.size) (hf : ∀ o ∈ xs, o.fits) (hl : xs.length ≤ maxLen) (h0 : 0 ≤ left) (h1 : left ≤ 1048576) :
    Calls Tryz.prog 61 #[.slice A xs.length c, .int .i64 left] w (Left (xs.length ≤ 1048576 ∧ ∀ o ∈ xs, o.small) left w) := by
  unfold maxLen at hl
  have H := Lib.hid h; clear h
  have Hf := Lib.hid hf; clear hf
  by_cases c1 : left - (xs.length : Int) < 0
  · have d1 : decide (left - (xs.length : Int) < 0) = true := by simpa using c1
    go_enter Tryz.func61, Tryz.ntmps61
    go_wp2
    go_ret
    exact ⟨-1, fun h => by omega, by omega, by omega, rfl, Below.refl _ _⟩
  · have d1 : decide (left - (xs.length : Int) < 0) = false := by simpa using c1
    go_enter Tryz.func61, Tryz.ntmps61
    go_wp2_with fail
    go_loopw [1, 5] (fun t i wr => ∃ (j : Nat) (v : Int), j ≤ xs.length ∧ i = .int .i64 j ∧ t = .int .i64 v ∧ 0 ≤ v ∧ v ≤ left ∧ Hid (∀ o ∈ xs.take j, o.small) ∧ Below w.heap.size w wr) (fun _ i _ => xs.length - (intOf i).toNat)
    case atStart => exact ⟨0, _, by omega, rfl, rfl, by omega, by omega, Lib.hid (by simp), Below.refl _ _⟩
    case round =>
      obtain ⟨j, v, hj, rfl, rfl, hv0, hv1, Hs, hb⟩ := hrel
      by_cases hlt : j < xs.length
      · obtain ⟨b, off, rfl, hbB, p0, p1, p2⟩ := ObjsAt.obj (Sl.below H.out hb hB) hlt
        have hfit : xs[j].fits := Hf.out _ (List.getElem_mem hlt)
        have Hfit := Lib.hid hfit; clear hfit
        go_wp2_with fail
        refine (szObject_any xs[j] v wr Hfit.out hv0 (by omega)).mono ?_
        rintro e w1 ⟨u, hu, hu1, hu2, rfl, hb1⟩
        have hb2 : Below w.heap.size w w1 := hb.trans (hb1.mono hb.size)
        have Hu := Lib.hid hu; clear hu p0 p1 p2
        by_cases c2 : u < 0
        · have d2 : decide (u < 0) = true := by simpa using c2
          go_wp2
          go_ret
          exact ⟨-1, fun h => by omega, by omega, by omega, rfl, hb2⟩
        · have d2 : decide (u < 0) = false := by simpa using c2
          obtain ⟨hsm, hle⟩ := Hu.out (by omega)
          have hn : ∀ o ∈ xs.take (j + 1), o.small := by
            rw [List.take_succ_eq_append_getElem hlt]
            intro o ho
            rcases List.mem_append.1 ho with ho | ho
            · exact Hs.out o ho
            · simp at ho; subst ho; exact hsm
          have Hn := Lib.hid hn; clear hn hsm
          go_wp2
          go_roundw
          case rel => exact ⟨j + 1, u, by omega, by go_num, rfl, by omega, by omega, Hn, hb2⟩
          case measure => simp [intOf]; omega
      · have hn : ∀ o ∈ xs, o.small := by have := Hs.out; rwa [List.take_of_length_le (by omega)] at this
        have Hn := Lib.hid hn; clear hn
        go_wp2
        go_ret
        exact ⟨v, fun h => ⟨⟨by omega, Hn.out⟩, by omega⟩, by omega, by omega, rfl, hb⟩

theorem szStore_any (A : Option Addr) (c : Nat) (next : Int) (xs : List GObj) (left : Int) (B : Nat) (w : World) (h : ObjsAt w B A xs) (hB : B ≤ w.heap.size) (hf : ∀ o ∈ xs, o.fits) (hl : xs.length ≤ maxLen) (h0 : 0 ≤ left) (h1 : left ≤ 1048576) :
    Calls Tryz.prog 21 #[.agg #[.slice A xs.length c, .int .i64 next], .int .i64 left] w (Left (xs.length ≤ 1048576 ∧ ∀ o ∈ xs, o.small) left w) := by
  have H := Lib.hid h; clear h
  have Hf := Lib.hid hf; clear hf
  go_enter Tryz.func21, Tryz.ntmps21
  go_wp2_with fail
  refine (szObjectS_any A c xs left B _ (Sl.below H.out ((Below.refl _ _).alloc (by exact Nat.le_refl _) _) hB) (by simp; omega) Hf.out hl h0 h1).mono ?_
  rintro e w1 ⟨u, hu, hu1, hu2, rfl, hb1⟩
  have hb2 : Below w.heap.size w w1 := ((Below.refl _ _).alloc (Nat.le_refl _) _).trans (hb1.mono (by simp))
  have Hu := Lib.hid hu; clear hu hb1
  by_cases c2 : u < 0
  · have d2 : decide (u < 0) = true := by simpa using c2
    go_wp2
    go_ret
    exact ⟨-1, fun h => by omega, by omega, by omega, rfl, hb2⟩
  · have d2 : decide (u < 0) = false := by simpa using c2
    go_wp2
    go_ret
    exact ⟨u, Hu.out, hu1, hu2, rfl, hb2⟩

end Go.Proofs.YtpackpocnonpiaaGreatDoor

/- Words for slices of Entrys in memory, and contracts of the laws' own helpers on them (eq, sz, to). -/
namespace Go.Proofs.YtpackpocnonpiaaGreatDoor
open Go.ChangeShapes Go.WideShapes Go.ChangeAt Go.RowKit Go.Deep Go.Joins
set_option linter.unusedVariables false
set_option linter.unusedSimpArgs false

structure GEnt where
  tier : Int
  beg : Int
  fin : Int
  key : ByteArray
deriving DecidableEq

def GEnt.vals (o : GEnt) : List Value := [.int .i64 o.tier, .int .i64 o.beg, .int .i64 o.fin, .string o.key]

def GEnt.fit (o : GEnt) : Prop := I64 o.tier ∧ I64 o.beg ∧ I64 o.fin ∧ o.key.size ≤ maxLen

def GEnt.small (o : GEnt) : Prop := o.key.size ≤ 1048576

def zEnt : GEnt := ⟨0, 0, 0, ⟨#[]⟩⟩

/-- a slice of them -/
def EntsAt (w : World) (B : Nat) (A : Option Addr) (xs : List GEnt) : Prop := Sl GEnt.vals 4 w B A xs

theorem EntsAt.one {w : World} {B : Nat} {A : Option Addr} {xs : List GEnt} (h : EntsAt w B A xs) {k : Nat} (hk : k < xs.length) :
    ∃ b off, A = some ⟨b, off, none⟩ ∧ b < B ∧ w.cell? ⟨b, off + k * 4, none⟩ = some (.int .i64 xs[k].tier) ∧ w.cell? ⟨b, off + k * 4 + 1, none⟩ = some (.int .i64 xs[k].beg) ∧ w.cell? ⟨b, off + k * 4 + 2, none⟩ = some (.int .i64 xs[k].fin) ∧ w.cell? ⟨b, off + k * 4 + 3, none⟩ = some (.string xs[k].key) := by
  obtain ⟨b, off, e, hb, hc⟩ := Sl.at_ h hk
  exact ⟨b, off, e, hb, hc 0 _ rfl, hc 1 _ rfl, hc 2 _ rfl, hc 3 _ rfl⟩

theorem len_Ent (o : GEnt) : o.vals.length = 4 := rfl

/-- which of two's fields is the first to differ, in the forms that a walk asks -/
theorem ent_cases (o p : GEnt) : (o = p) ∨ (o ≠ p ∧ (o.tier == p.tier) = false) ∨ (o ≠ p ∧ (o.tier == p.tier) = true ∧ (o.beg == p.beg) = false) ∨ (o ≠ p ∧ (o.tier == p.tier) = true ∧ (o.beg == p.beg) = true ∧ (o.fin == p.fin) = false) ∨ (o ≠ p ∧ (o.tier == p.tier) = true ∧ (o.beg == p.beg) = true ∧ (o.fin == p.fin) = true ∧ (o.key.toList == p.key.toList) = false) := by
  by_cases h0 : o.tier = p.tier
  · by_cases h1 : o.beg = p.beg
    · by_cases h2 : o.fin = p.fin
      · by_cases h3 : o.key = p.key
        · exact .inl (by cases o; cases p; simp at h0 h1 h2 h3; simp [h0, h1, h2, h3])
        · exact .inr (.inr (.inr (.inr (⟨fun e => h3 (by rw [e]), by simpa using h0, by simpa using h1, by simpa using h2, ne_list h3⟩))))
      · exact .inr (.inr (.inr (.inl ⟨fun e => h2 (by rw [e]), by simpa using h0, by simpa using h1, by simpa using h2⟩)))
    · exact .inr (.inr (.inl ⟨fun e => h1 (by rw [e]), by simpa using h0, by simpa using h1⟩))
  · exact .inr (.inl ⟨fun e => h0 (by rw [e]), by simpa using h0⟩)

theorem eqEntry_any (a b : GEnt) (w : World) : Calls Tryz.prog 104 #[.agg #[.int .i64 a.tier, .int .i64 a.beg, .int .i64 a.fin, .string a.key], .agg #[.int .i64 b.tier, .int .i64 b.beg, .int .i64 b.fin, .string b.key]] w (IsBB (a = b) w) := by
  obtain ⟨a0, a1, a2, a3⟩ := a
  obtain ⟨b0, b1, b2, b3⟩ := b
  dsimp only
  by_cases g3 : a3 = b3
  · subst g3
    go_enter Tryz.func104, Tryz.ntmps104
    go_wp2
    all_goals go_ret
    all_goals refine ⟨_, ?_, rfl, bal (bal (Below.refl _ _) _) _⟩
    all_goals simp_all
  · have e3 := ne_list g3
    go_enter Tryz.func104, Tryz.ntmps104
    go_wp2
    all_goals go_ret
    all_goals refine ⟨_, ?_, rfl, bal (bal (Below.refl _ _) _) _⟩
    all_goals simp_all

set_option maxRecDepth 100000 in
theorem eqEntryS_any (A1 A2 : Option Addr) (c1 c2 : Nat) (xs ys : List GEnt) (B : Nat) (w : World) (h1 : EntsAt w B A1 xs) (h2 : EntsAt w B A2 ys) (hB : B ≤ w.heap.size) (hl : xs.length ≤ 4611686018427387904) (hl2 : ys.length ≤ 4611686018427387904) :
    Calls Tryz.prog 54 #[.slice A1 xs.length c1, .slice A2 ys.length c2] w (IsBB (xs = ys) w) := by
  by_cases hlen : xs.length = ys.length
  · have hd : ((xs.length : Int) != (ys.length : Int)) = false := by simp; omega
    have hd2 : ((xs.length : Int) == (ys.length : Int)) = true := by simp; omega
    have Hlen := Lib.hid hlen; clear hlen
    have H1 := Lib.hid h1; clear h1
    have H2 := Lib.hid h2; clear h2
    go_enter Tryz.func54, Tryz.ntmps54
    go_wp2_with fail
    go_loopw [5] (fun i wr => ∃ k : Nat, k ≤ xs.length ∧ i = .int .i64 k ∧ Hid (xs.take k = ys.take k) ∧ Below w.heap.size w wr) (fun i _ => xs.length - (intOf i).toNat)
    case atStart => exact ⟨0, by omega, rfl, Lib.hid (by simp), Below.refl _ _⟩
    case round =>
      obtain ⟨k, hk, rfl, H, hb⟩ := hrel
      by_cases hlt : k < xs.length
      · have hy : k < ys.length := by have := Hlen.out; omega
        obtain ⟨b1, o1, rfl, hb1, p0, p1, p2, p3⟩ := EntsAt.one (Sl.below H1.out hb hB) hlt
        obtain ⟨b2, o2, rfl, hb2, q0, q1, q2, q3⟩ := EntsAt.one (Sl.below H2.out hb hB) hy
        go_wp2_with fail
        go_still_tail 8, (by kernel_rfl)
        have hb' := hb.drew
        change wpList _ _ _ _ _ wr.drew
        generalize wr.drew = w2 at hb' ⊢
        clear p0 p1 p2 p3 q0 q1 q2 q3
        go_wp2_with fail
        refine (eqEntry_any xs[k] ys[k] w2).mono ?_
        rintro e w3 ⟨be, hbe, rfl, hb3⟩
        have hb4 : Below w.heap.size w w3 := hb'.trans (hb3.mono hb'.size)
        cases be
        · have he : ¬ xs[k] = ys[k] := fun h => by have := hbe.2 h; cases this
          have hn : ¬ (xs = ys) := fun h => he (by simp [h])
          have Hn := Lib.hid hn; clear hn he hbe
          go_wp2
          go_ret
          exact ⟨false, by simp [Hn.out], rfl, hb4⟩
        · have he : xs[k] = ys[k] := hbe.1 rfl
          have hn : xs.take (k + 1) = ys.take (k + 1) := by
            rw [List.take_succ_eq_append_getElem hlt, List.take_succ_eq_append_getElem hy, H.out, he]
          have Hn := Lib.hid hn; clear hn he hbe
          go_wp2
          go_roundw
          case rel => exact ⟨k + 1, by omega, by go_num, Hn, hb4⟩
          case measure => simp [intOf]; omega
      · have hyes : xs = ys := by
          have h1 := H.out
          have h2 := Hlen.out
          rw [List.take_of_length_le (by omega), List.take_of_length_le (by omega)] at h1
          exact h1
        have Hy := Lib.hid hyes; clear hyes
        go_wp2
        go_ret
        exact ⟨true, by simp [Hy.out], rfl, hb⟩
  · have hd : ((xs.length : Int) != (ys.length : Int)) = true := by simp; omega
    have hd2 : ((xs.length : Int) == (ys.length : Int)) = false := by simp; omega
    have hno : ¬ (xs = ys) := fun h => hlen (by rw [h])
    have Hno := Lib.hid hno; clear hno hlen h1 h2
    go_enter Tryz.func54, Tryz.ntmps54
    go_wp2
    go_ret
    exact ⟨false, by simp [Hno.out], rfl, Below.refl _ _⟩

theorem szEntry_any (o : GEnt) (left : Int) (w : World) (ho : o.fit) (h0 : 0 ≤ left) (h1 : left ≤ 1048576) :
    Calls Tryz.prog 7 #[.agg #[.int .i64 o.tier, .int .i64 o.beg, .int .i64 o.fin, .string o.key], .int .i64 left] w (Left o.small left w) := by
  have ok : o.key.size ≤ maxLen := by unfold GEnt.fit at ho; simp_all
  unfold maxLen at ok
  clear ho
  by_cases c1 : left - (o.key.size : Int) < 0
  · have d1 : decide (left - (o.key.size : Int) < 0) = true := by simpa using c1
    go_enter Tryz.func7, Tryz.ntmps7
    go_wp2
    go_ret
    exact ⟨-1, fun h => by omega, by omega, by omega, rfl, (Below.refl _ _).alloc (Nat.le_refl _) _⟩
  · have d1 : decide (left - (o.key.size : Int) < 0) = false := by simpa using c1
    go_enter Tryz.func7, Tryz.ntmps7
    go_wp2
    go_ret
    exact ⟨_, fun h => ⟨by unfold GEnt.small; omega, by omega⟩, by omega, by omega, rfl, (Below.refl _ _).alloc (Nat.le_refl _) _⟩

theorem szEntryS_any (A : Option Addr) (c : Nat) (xs : List GEnt) (left : Int) (B : Nat) (w : World) (h : EntsAt w B A xs) (hB : B ≤ w.heap.size) (hf : ∀ o ∈ xs, o.fit) (hl : xs.length ≤ maxLen) (h0 : 0 ≤ left) (h1 : left ≤ 1048576) :
    Calls Tryz.prog 40 #[.slice A xs.length c, .int .i64 left] w (Left (xs.length ≤ 1048576 ∧ ∀ o ∈ xs, o.small) left w) := by
  unfold maxLen at hl
  have H := Lib.hid h; clear h
  have Hf := Lib.hid hf; clear hf
  by_cases c1 : left - (xs.length : Int) < 0
  · have d1 : decide (left - (xs.length : Int) < 0) = true := by simpa using c1
    go_enter Tryz.func40, Tryz.ntmps40
    go_wp2
    go_ret
    exact ⟨-1, fun h => by omega, by omega, by omega, rfl, Below.refl _ _⟩
  · have d1 : decide (left - (xs.length : Int) < 0) = false := by simpa using c1
    go_enter Tryz.func40, Tryz.ntmps40
    go_wp2_with fail
    go_loopw [1, 5] (fun t i wr => ∃ (j : Nat) (v : Int), j ≤ xs.length ∧ i = .int .i64 j ∧ t = .int .i64 v ∧ 0 ≤ v ∧ v ≤ left ∧ Hid (∀ o ∈ xs.take j, o.small) ∧ Below w.heap.size w wr) (fun _ i _ => xs.length - (intOf i).toNat)
    case atStart => exact ⟨0, _, by omega, rfl, rfl, by omega, by omega, Lib.hid (by simp), Below.refl _ _⟩
    case round =>
      obtain ⟨j, v, hj, rfl, rfl, hv0, hv1, Hs, hb⟩ := hrel
      by_cases hlt : j < xs.length
      · obtain ⟨b, off, rfl, hbB, p0, p1, p2, p3⟩ := EntsAt.one (Sl.below H.out hb hB) hlt
        have hfit : xs[j].fit := Hf.out _ (List.getElem_mem hlt)
        have Hfit := Lib.hid hfit; clear hfit
        go_wp2_with fail
        refine (szEntry_any xs[j] v wr Hfit.out hv0 (by omega)).mono ?_
        rintro e w1 ⟨u, hu, hu1, hu2, rfl, hb1⟩
        have hb2 : Below w.heap.size w w1 := hb.trans (hb1.mono hb.size)
        have Hu := Lib.hid hu; clear hu p0 p1 p2 p3
        by_cases c2 : u < 0
        · have d2 : decide (u < 0) = true := by simpa using c2
          go_wp2
          go_ret
          exact ⟨-1, fun h => by omega, by omega, by omega, rfl, hb2⟩
        · have d2 : decide (u < 0) = false := by simpa using c2
          obtain ⟨hsm, hle⟩ := Hu.out (by omega)
          have hn : ∀ o ∈ xs.take (j + 1), o.small := by
            rw [List.take_succ_eq_append_getElem hlt]
            intro o ho
            rcases List.mem_append.1 ho with ho | ho
            · exact Hs.out o ho
            · simp at ho; subst ho; exact hsm
          have Hn := Lib.hid hn; clear hn hsm
          go_wp2
          go_roundw
          case rel => exact ⟨j + 1, u, by omega, by go_num, rfl, by omega, by omega, Hn, hb2⟩
          case measure => simp [intOf]; omega
      · have hn : ∀ o ∈ xs, o.small := by have := Hs.out; rwa [List.take_of_length_le (by omega)] at this
        have Hn := Lib.hid hn; clear hn
        go_wp2
        go_ret
        exact ⟨v, fun h => ⟨⟨by omega, Hn.out⟩, by omega⟩, by omega, by omega, rfl, hb⟩

theorem toEntry_any (o : GEnt) (w : World) : Calls Tryz.prog 9 #[.agg #[.int .i64 o.tier, .int .i64 o.beg, .int .i64 o.fin, .string o.key]] w fun e w' => e = .returned (.agg #[.int .i64 o.tier, .int .i64 o.beg, .int .i64 o.fin, .string o.key]) ∧ Below w.heap.size w w' := by
  go_enter Tryz.func9, Tryz.ntmps9
  go_wp2
  refine bodyPost_ret (v := .agg #[.int .i64 o.tier, .int .i64 o.beg, .int .i64 o.fin, .string o.key]) (by simp [results, Tryz.results9, go_sem]) rfl ⟨rfl, ?_⟩
  repeat' first | exact Below.refl _ _ | refine bal ?_ _ | refine bset ?_ (by simp) _

theorem infoEnt : (Tryz.prog.info? 29).map (fun i => (i.zero, i.size, i.bytes)) = some (some (.agg #[.int .i64 0, .int .i64 0, .int .i64 0, .string ⟨#[]⟩]), 4, 40) := by kernel_rfl

def zeroEnts (n : Nat) : Obj := .cells (madeCells #[.int .i64 0, .int .i64 0, .int .i64 0, .string ⟨#[]⟩] (n * 4)) 29

theorem make_ents (n : Nat) (hn : n ≤ 1048576) (W : World) : (Instr.makeSlice 42 (.int .i64 (n : Int)) (.int .i64 (n : Int))).run Tryz.prog W = .ok (.slice (some ⟨W.heap.size, 0, none⟩) n n) (W.alloc (zeroEnts n)) :=
  run_make_n (P := Tryz.prog) 42 29 _ 4 40 infoEnt Tryz.underlying42 n n (Nat.le_refl _) (by omega) (by omega) W

theorem zeroEnts_sl (n : Nat) (w : World) : EntsAt (w.alloc (zeroEnts n)) (w.heap.size + 1) (some ⟨w.heap.size, 0, none⟩) (List.replicate n zEnt) :=
  made_sl GEnt.vals zEnt 4 n 29 w _ rfl rfl

/-- a slice of them is answered, in new memory of its own -/
def NewEnts (xs : List GEnt) (w : World) (e : Ending) (w' : World) : Prop :=
  ∃ (A : Option Addr) (c : Nat), e = .returned (.slice A xs.length c) ∧ EntsAt w' w'.heap.size A xs ∧ Free w' A ∧ (∀ b, blk A = some b → w.heap.size ≤ b ∧ b < w'.heap.size) ∧ xs.length ≤ c ∧ Below w.heap.size w w'

set_option maxRecDepth 100000 in
theorem toEntryS_any (A : Option Addr) (c : Nat) (xs : List GEnt) (B : Nat) (w : World) (h : EntsAt w B A xs) (hB : B ≤ w.heap.size) (hl : xs.length ≤ 1048576) :
    Calls Tryz.prog 46 #[.slice A xs.length c] w (NewEnts xs w) := by
  have H := Lib.hid h; clear h
  have hmk := make_ents xs.length hl
  go_enter Tryz.func46, Tryz.ntmps46
  go_wp2_with fail
  have hsl := zeroEnts_sl xs.length w
  have hfr : Free (w.alloc (zeroEnts xs.length)) (some ⟨w.heap.size, 0, none⟩) := free_alloc _ _ _ _
  have hbw : Below w.heap.size w (w.alloc (zeroEnts xs.length)) := bal (Below.refl _ _) _
  have hsz : w.heap.size < (w.alloc (zeroEnts xs.length)).heap.size := by simp
  generalize w.alloc (zeroEnts xs.length) = w0 at hsl hfr hbw hsz ⊢
  clear hmk
  have Hsl := Lib.hid hsl; clear hsl
  have Hfr := Lib.hid hfr; clear hfr
  go_loopw [4] (fun i wr => ∃ j : Nat, j ≤ xs.length ∧ i = .int .i64 j ∧ Hid (EntsAt wr (w.heap.size + 1) (some ⟨w.heap.size, 0, none⟩) (xs.take j ++ (List.replicate xs.length zEnt).drop j)) ∧ Hid (Free wr (some ⟨w.heap.size, 0, none⟩)) ∧ w.heap.size < wr.heap.size ∧ Below w.heap.size w wr) (fun i _ => xs.length - (intOf i).toNat)
  case atStart => exact ⟨0, by omega, rfl, Lib.hid (by simpa using Hsl.out), Hfr, hsz, hbw⟩
  case round =>
    clear Hsl Hfr hbw hsz
    obtain ⟨j, hj, rfl, Hr, Hf, hs, hb⟩ := hrel
    by_cases hlt : j < xs.length
    · obtain ⟨b, off, rfl, hbB, p0, p1, p2, p3⟩ := EntsAt.one (Sl.below H.out hb hB) hlt
      have hjl : j < (xs.take j ++ (List.replicate xs.length zEnt).drop j).length := by simp; omega
      obtain ⟨g, o, e, hgB, q0, q1, q2, q3⟩ := EntsAt.one Hr.out hjl
      injection e with e
      injection e with e1 e2
      subst e1 e2
      obtain ⟨v0, q0⟩ : ∃ v, wr.cell? ⟨w.heap.size, 0 + j * 4, none⟩ = some v := ⟨_, q0⟩
      obtain ⟨v1, q1⟩ : ∃ v, wr.cell? ⟨w.heap.size, 0 + j * 4 + 1, none⟩ = some v := ⟨_, q1⟩
      obtain ⟨v2, q2⟩ : ∃ v, wr.cell? ⟨w.heap.size, 0 + j * 4 + 2, none⟩ = some v := ⟨_, q2⟩
      obtain ⟨v3, q3⟩ : ∃ v, wr.cell? ⟨w.heap.size, 0 + j * 4 + 3, none⟩ = some v := ⟨_, q3⟩
      have fz : ∀ i, wr.frozen? ⟨w.heap.size, i, none⟩ = false := Hf.out _ rfl
      rw [Nat.zero_add] at q0 q1 q2 q3
      have Q0 := Lib.hid q0; clear q0
      have Q1 := Lib.hid q1; clear q1
      have Q2 := Lib.hid q2; clear q2
      have Q3 := Lib.hid q3; clear q3
      have Fz := Lib.hid fz; clear fz
      go_wp2_with fail
      refine (toEntry_any xs[j] wr).mono ?_
      rintro e w1 ⟨rfl, hb1⟩
      have c0 : w1.cell? ⟨w.heap.size, j * 4, none⟩ = some v0 := (hb1.cell hs).trans Q0.out
      have f0 : w1.frozen? ⟨w.heap.size, j * 4, none⟩ = false := (hb1.frozen hs).trans (Fz.out _)
      have c1 : w1.cell? ⟨w.heap.size, j * 4 + 1, none⟩ = some v1 := (hb1.cell hs).trans Q1.out
      have f1 : w1.frozen? ⟨w.heap.size, j * 4 + 1, none⟩ = false := (hb1.frozen hs).trans (Fz.out _)
      have c2 : w1.cell? ⟨w.heap.size, j * 4 + 2, none⟩ = some v2 := (hb1.cell hs).trans Q2.out
      have f2 : w1.frozen? ⟨w.heap.size, j * 4 + 2, none⟩ = false := (hb1.frozen hs).trans (Fz.out _)
      have c3 : w1.cell? ⟨w.heap.size, j * 4 + 3, none⟩ = some v3 := (hb1.cell hs).trans Q3.out
      have f3 : w1.frozen? ⟨w.heap.size, j * 4 + 3, none⟩ = false := (hb1.frozen hs).trans (Fz.out _)
      have hn := Sl.puts (w1 := w1) Hr.out (fun x => rfl) hjl (fun i => hb1.cell hs) xs[j]
      rw [take_set xs _ j hlt (by simpa using hlt)] at hn
      have Hn := Lib.hid hn; clear hn
      have hfn : Free (puts w1 w.heap.size (j * 4) xs[j].vals) (some ⟨w.heap.size, 0, none⟩) := Free.puts _ (fun i => (hb1.frozen hs).trans (Fz.out i))
      have Hfn := Lib.hid hfn; clear hfn
      have hsn : w.heap.size < (puts w1 w.heap.size (j * 4) xs[j].vals).heap.size := by rw [puts_size]; exact Nat.lt_of_lt_of_le hs hb1.size
      have Hsn := Lib.hid hsn; clear hsn
      have hbn : Below w.heap.size w (puts w1 w.heap.size (j * 4) xs[j].vals) := puts_below _ (Nat.le_refl _) _ _ _ (bnext hb hb1)
      have Hbn := Lib.hid hbn; clear hbn
      go_wp2
      go_roundw
      case rel => exact ⟨j + 1, by omega, by go_num, Hn, Hfn, Hsn.out, Hbn.out⟩
      case measure => simp [intOf]; omega
    · obtain rfl : j = xs.length := by omega
      have hn : EntsAt wr (w.heap.size + 1) (some ⟨w.heap.size, 0, none⟩) xs := by simpa using Hr.out
      have Hn := Lib.hid hn; clear hn
      go_wp2
      go_ret
      exact ⟨_, _, rfl, Sl.more Hn.out hs, Hf.out, fun b e => by simp [blk] at e; subst e; exact ⟨Nat.le_refl _, hs⟩, Nat.le_refl _, hb⟩

end Go.Proofs.YtpackpocnonpiaaGreatDoor

/- Words for records, and contracts of the laws' own helpers on them (eq, sz, to). No conditions. -/
namespace Go.Proofs.YtpackpocnonpiaaGreatDoor
open Go.ChangeShapes Go.WideShapes Go.ChangeAt Go.RowKit Go.Deep Go.Joins
set_option linter.unusedVariables false
set_option linter.unusedSimpArgs false

/-- a record as data -/
structure GRec where
  kind : Int
  tok : Int
  tier : Int
  beg : Int
  fin : Int
  key : ByteArray
deriving DecidableEq

def GRec.vals (r : GRec) : List Value := [.int .i64 r.kind, .int .i64 r.tok, .int .i64 r.tier, .int .i64 r.beg, .int .i64 r.fin, .string r.key]

def GRec.fit (r : GRec) : Prop := I64 r.kind ∧ I64 r.tok ∧ I64 r.tier ∧ I64 r.beg ∧ I64 r.fin ∧ r.key.size ≤ maxLen

def GRec.small (r : GRec) : Prop := r.key.size ≤ 1048576

def zRec : GRec := ⟨0, 0, 0, 0, 0, ⟨#[]⟩⟩

/-- a record's entry -/
def GRec.ent (r : GRec) : GEnt := ⟨r.tier, r.beg, r.fin, r.key⟩

/-- a record lies in a block of its own -/
def RecAt (w : World) (b : Nat) (r : GRec) : Prop := Cells w b 0 r.vals

theorem RecAt.cells {w : World} {b : Nat} {r : GRec} (h : RecAt w b r) : w.cell? ⟨b, 0, none⟩ = some (.int .i64 r.kind) ∧ w.cell? ⟨b, 1, none⟩ = some (.int .i64 r.tok) ∧ w.cell? ⟨b, 2, none⟩ = some (.int .i64 r.tier) ∧ w.cell? ⟨b, 3, none⟩ = some (.int .i64 r.beg) ∧ w.cell? ⟨b, 4, none⟩ = some (.int .i64 r.fin) ∧ w.cell? ⟨b, 5, none⟩ = some (.string r.key) := ⟨h 0 _ rfl, h 1 _ rfl, h 2 _ rfl, h 3 _ rfl, h 4 _ rfl, h 5 _ rfl⟩

theorem Cells.new (w : World) (vs : List Value) (t : TypeId) : Cells (w.alloc (.cells ⟨vs⟩ t)) w.heap.size 0 vs := fun j v h => by
  rw [World.cell?_alloc_new, Nat.zero_add]
  simpa using h

theorem Cells.below {w w' : World} {b o B : Nat} {vs : List Value} (h : Cells w b o vs) (hb : Below B w w') (hB : b < B) : Cells w' b o vs := fun j v hv => (hb.cell (p := ⟨b, o + j, none⟩) hB).trans (h j v hv)

theorem Cells.far {w : World} {b o : Nat} {vs : List Value} (h : Cells w b o vs) {p : Addr} (hp : b ≠ p.block) (u : Value) : Cells (w.setCell p u) b o vs := fun j v hv =>
  (World.cell?_setCell_other w p ⟨b, o + j, none⟩ u (fun he => hp (by rw [he]))).trans (h j v hv)

theorem RecAt.new (w : World) (r : GRec) (t : TypeId) : RecAt (w.alloc (.cells #[.int .i64 r.kind, .int .i64 r.tok, .int .i64 r.tier, .int .i64 r.beg, .int .i64 r.fin, .string r.key] t)) w.heap.size r := Cells.new w r.vals t

theorem RecAt.below {w w' : World} {b B : Nat} {r : GRec} (h : RecAt w b r) (hb : Below B w w') (hB : b < B) : RecAt w' b r := Cells.below h hb hB

theorem toRecord_any (o : GRec) (w : World) : Calls Tryz.prog 16 #[.agg #[.int .i64 o.kind, .int .i64 o.tok, .int .i64 o.tier, .int .i64 o.beg, .int .i64 o.fin, .string o.key]] w fun e w' => e = .returned (.agg #[.int .i64 o.kind, .int .i64 o.tok, .int .i64 o.tier, .int .i64 o.beg, .int .i64 o.fin, .string o.key]) ∧ Below w.heap.size w w' := by
  go_enter Tryz.func16, Tryz.ntmps16
  go_wp2
  refine bodyPost_ret (v := .agg #[.int .i64 o.kind, .int .i64 o.tok, .int .i64 o.tier, .int .i64 o.beg, .int .i64 o.fin, .string o.key]) (by simp [results, Tryz.results16, go_sem]) rfl ⟨rfl, ?_⟩
  repeat' first | exact Below.refl _ _ | refine bal ?_ _ | refine bset ?_ (by simp) _

theorem szRecord_any (o : GRec) (left : Int) (w : World) (ok : o.key.size ≤ maxLen) (h0 : 0 ≤ left) (h1 : left ≤ 1048576) :
    Calls Tryz.prog 13 #[.agg #[.int .i64 o.kind, .int .i64 o.tok, .int .i64 o.tier, .int .i64 o.beg, .int .i64 o.fin, .string o.key], .int .i64 left] w (Left o.small left w) := by
  unfold maxLen at ok
  by_cases c1 : left - (o.key.size : Int) < 0
  · have d1 : decide (left - (o.key.size : Int) < 0) = true := by simpa using c1
    go_enter Tryz.func13, Tryz.ntmps13
    go_wp2
    go_ret
    exact ⟨-1, fun h => by omega, by omega, by omega, rfl, (Below.refl _ _).alloc (Nat.le_refl _) _⟩
  · have d1 : decide (left - (o.key.size : Int) < 0) = false := by simpa using c1
    go_enter Tryz.func13, Tryz.ntmps13
    go_wp2
    go_ret
    exact ⟨_, fun h => ⟨by unfold GRec.small; omega, by omega⟩, by omega, by omega, rfl, (Below.refl _ _).alloc (Nat.le_refl _) _⟩

end Go.Proofs.YtpackpocnonpiaaGreatDoor

/- Contracts of WidthOf, KeepOf and AlignDown of both packages: what each answers at every tier and time. Conditions: the program's tables of widths and keeps hold what its text lays there. -/
namespace Go.Proofs.YtpackpocnonpiaaGreatDoor
open Go.ChangeShapes Go.WideShapes Go.ChangeAt Go.RowKit
set_option linter.unusedVariables false

/-- a tier's width -/
def wid (k : Nat) : Int := ([1, 5, 20] : List Int).getD k 0

/-- how long a tier is kept -/
def kep (k : Nat) : Int := ([40, 100, 400] : List Int).getD k 0

/-- a table of three numbers lies in a variable -/
def Tab3 (g : Nat) (f : Nat → Int) (w : World) : Prop := ∀ i, i < 3 → w.cell? ⟨g, i, none⟩ = some (.int .i64 (f i))

theorem Tab3.below {g : Nat} {f : Nat → Int} {w w' : World} (h : Tab3 g f w) (hb : Below w.heap.size w w') (hz : g < w.heap.size) : Tab3 g f w' := fun i hi => (hb.cell (p := ⟨g, i, none⟩) hz).trans (h i hi)

theorem three {k : Nat} (h : k < 3) : k = 0 ∨ k = 1 ∨ k = 2 := by omega

theorem inB_tier {k : Nat} (h : k < 3) : inB (k : Int) 0 2 = true := inB_iff.2 ⟨by omega, by omega⟩

theorem inB_no {n lo hi : Int} (h : ¬ (lo ≤ n ∧ n ≤ hi)) : inB n lo hi = false := by
  cases e : inB n lo hi
  · rfl
  · exact absurd (inB_iff.1 e) h

theorem l04Width_in (k : Nat) (hk : k < 3) (w : World) : Calls Tryz.prog 119 #[.int .i64 k] w fun e w' => e = .returned (.int .i64 (wid k)) ∧ Below w.heap.size w w' := by
  rcases three hk with rfl | rfl | rfl
  all_goals go_enter Tryz.func119, Tryz.ntmps119
  all_goals go_wp2
  all_goals go_ret
  all_goals exact ⟨rfl, bal (Below.refl _ _) _⟩

/-- where a time's window begins -/
def alg (t : Int) (k : Nat) : Int := t - t % wid k

theorem wid_pos {k : Nat} (hk : k < 3) : 1 ≤ wid k ∧ wid k ≤ 20 := by
  rcases three hk with rfl | rfl | rfl <;> decide

theorem alg_ok {t : Int} {k : Nat} (hk : k < 3) (h0 : 0 ≤ t) (h1 : t ≤ 100000) : t.tmod (wid k) = t % wid k ∧ 0 ≤ t % wid k ∧ t % wid k < wid k ∧ t % wid k ≤ t := by
  have hw := wid_pos hk
  refine ⟨Int.tmod_eq_emod_of_nonneg h0, Int.emod_nonneg _ (by omega), Int.emod_lt_of_pos _ (by omega), ?_⟩
  have h2 := Int.emod_add_mul_ediv t (wid k)
  have h3 : 0 ≤ wid k * (t / wid k) := Int.mul_nonneg (by omega) (Int.ediv_nonneg h0 (by omega))
  omega

/-- a tier, and where it lies -/
theorem tier_cases (n : Int) : (∃ k : Nat, k < 3 ∧ n = (k : Int)) ∨ ¬ (0 ≤ n ∧ n ≤ 2) := by
  by_cases h : 0 ≤ n ∧ n ≤ 2
  · exact Or.inl ⟨n.toNat, by omega, by omega⟩
  · exact Or.inr h

end Go.Proofs.YtpackpocnonpiaaGreatDoor

/- Words for the program's scanner (its text, its place, its first fault, in a block of the call's own), and contracts of its methods fail, rest, atEnd, mark; of anyTooLong of one text. Conditions: none beside a text's length. -/
namespace Go.Proofs.YtpackpocnonpiaaGreatDoor
open Go.ChangeShapes Go.WideShapes Go.ChangeAt Go.RowKit
set_option linter.unusedVariables false
set_option linter.unusedSimpArgs false

/-- a scanner lies in block g -/
structure Scan (w : World) (g : Nat) (t : ByteArray) (a : Nat) (x : Value) : Prop where
  c0 : w.cell? ⟨g, 0, none⟩ = some (.string t)
  c1 : w.cell? ⟨g, 1, none⟩ = some (.int .i64 a)
  c2 : w.cell? ⟨g, 2, none⟩ = some x
  fz : ∀ i, w.frozen? ⟨g, i, none⟩ = false
  lt : g < w.heap.size

theorem Scan.below {w w' : World} {g a : Nat} {t : ByteArray} {x : Value} (h : Scan w g t a x) (hb : Below w.heap.size w w') : Scan w' g t a x :=
  ⟨(hb.cell (p := ⟨g, 0, none⟩) h.lt).trans h.c0, (hb.cell (p := ⟨g, 1, none⟩) h.lt).trans h.c1, (hb.cell (p := ⟨g, 2, none⟩) h.lt).trans h.c2, fun i => (hb.frozen (p := ⟨g, i, none⟩) h.lt).trans (h.fz i), Nat.lt_of_lt_of_le h.lt hb.size⟩

theorem Scan.go {w : World} {g a : Nat} {t : ByteArray} {x : Value} (h : Scan w g t a x) (n : Nat) : Scan (w.setCell ⟨g, 1, none⟩ (.int .i64 n)) g t n x :=
  ⟨(cset_ne w g 1 0 _ (by decide)).trans h.c0, cset_eq w g 1 _ h.c1, (cset_ne w g 1 2 _ (by decide)).trans h.c2, fun i => (frozen_setCell _ _ _ _).trans (h.fz i), by rw [size_setCell]; exact h.lt⟩

theorem Scan.err {w : World} {g a : Nat} {t : ByteArray} {x : Value} (h : Scan w g t a x) (y : Value) : Scan (w.setCell ⟨g, 2, none⟩ y) g t a y :=
  ⟨(cset_ne w g 2 0 _ (by decide)).trans h.c0, (cset_ne w g 2 1 _ (by decide)).trans h.c1, cset_eq w g 2 _ h.c2, fun i => (frozen_setCell _ _ _ _).trans (h.fz i), by rw [size_setCell]; exact h.lt⟩

theorem Scan.new (w : World) (t : ByteArray) (T : TypeId) : Scan (w.alloc (.cells #[.string t, .int .i64 0, .nilIface] T)) w.heap.size t 0 .nilIface :=
  ⟨by simp, by simp, by simp, free_alloc w _ T 0 w.heap.size rfl, by simp⟩

/-- a fault -/
def Bad (x : Value) : Prop := ∃ s n, x = .iface 249 (.agg #[.string s, .int .i64 n])

/-- a fault or none -/
def ErrV (x : Value) : Prop := x = .nilIface ∨ Bad x

theorem ErrV.nil : ErrV .nilIface := Or.inl rfl

theorem Bad.errV {x : Value} (h : Bad x) : ErrV x := Or.inr h

theorem bset' {B : Nat} {a w : World} (h : Below B a w) {p : Addr} (hp : B ≤ p.block) (u : Value) : Below B a (w.setCell p u) := h.setCell hp u

theorem grown_refl (w : World) (row : Option Nat) : w.grownBy w row := ⟨rfl, rfl, rfl, Nat.le_refl _, fun _ _ _ => rfl⟩

theorem grown_below {B g : Nat} {w w' : World} (h : w.grownBy w' (some g)) (hg : g < w.heap.size) (hB : B ≤ g) : Below B w w' := below_of_grown h (by omega) (fun g' e => by injection e with e; omega)

theorem fail_g (g a : Nat) (t s : ByteArray) (x : Value) (w : World) (h : Scan w g t a x) (hx : ErrV x) : Calls Tryz.prog 155 #[.pointer (some ⟨g, 0, none⟩), .string s] w fun e w' => e = .returned (.tuple #[]) ∧ ∃ y, Bad y ∧ Scan w' g t a y ∧ w.grownBy w' (some g) := by
  obtain ⟨c0, c1, c2, fz, hlt⟩ := h
  have f2 := fz 2
  rcases hx with rfl | ⟨s', n', rfl⟩
  · have H := Lib.hid (Scan.err (⟨c0, c1, c2, fz, hlt⟩ : Scan w g t a .nilIface) (.iface 249 (.agg #[.string s, .int .i64 a])))
    have Hb := Lib.hid (grown_setCell (grown_refl w (some g)) ⟨g, 2, none⟩ (Or.inl rfl) (.iface 249 (.agg #[.string s, .int .i64 a])))
    clear fz
    go_enter Tryz.func155, Tryz.ntmps155
    go_wp2
    exact ⟨rfl, .tuple #[], by simp [results, Tryz.results155, go_sem], rfl, _, ⟨s, a, rfl⟩, H.out, Hb.out⟩
  · have H := Lib.hid (⟨c0, c1, c2, fz, hlt⟩ : Scan w g t a (.iface 249 (.agg #[.string s', .int .i64 n'])))
    clear fz
    go_enter Tryz.func155, Tryz.ntmps155
    go_wp2
    exact ⟨rfl, .tuple #[], by simp [results, Tryz.results155, go_sem], rfl, _, ⟨s', n', rfl⟩, H.out, grown_refl _ _⟩

theorem fail_any (B g a : Nat) (t s : ByteArray) (x : Value) (w : World) (h : Scan w g t a x) (hx : ErrV x) (hB : B ≤ g) : Calls Tryz.prog 155 #[.pointer (some ⟨g, 0, none⟩), .string s] w fun e w' => e = .returned (.tuple #[]) ∧ ∃ y, Bad y ∧ Scan w' g t a y ∧ Below B w w' :=
  (fail_g g a t s x w h hx).mono fun e w' ⟨he, y, h1, h2, h3⟩ => ⟨he, y, h1, h2, grown_below h3 h.lt hB⟩

theorem rest_any (g a : Nat) (t : ByteArray) (x : Value) (w : World) (h : Scan w g t a x) (ha : a ≤ t.size) (hs : t.size ≤ 1048576) : Calls Tryz.prog 196 #[.pointer (some ⟨g, 0, none⟩)] w fun e w' => e = .returned (.string (t.extract a t.size)) ∧ Below w.heap.size w w' := by
  obtain ⟨c0, c1, c2, fz, hlt⟩ := h
  clear fz c2
  have i0 : (0 : Int) ≤ (a : Int) := by omega
  have i1 : (a : Int) ≤ (t.size : Int) := by omega
  go_enter Tryz.func196, Tryz.ntmps196
  go_wp2_with fail
  go_quiet (fail)
  go_wp2
  go_ret
  exact ⟨rfl, bdrewN (Below.refl _ _) _⟩

theorem atEnd_any (g a : Nat) (t : ByteArray) (x : Value) (w : World) (h : Scan w g t a x) (hs : t.size ≤ 1048576) : Calls Tryz.prog 154 #[.pointer (some ⟨g, 0, none⟩)] w fun e w' => e = .returned (.bool ((a : Int) == (t.size : Int))) ∧ Below w.heap.size w w' := by
  obtain ⟨c0, c1, c2, fz, hlt⟩ := h
  clear fz c2
  go_enter Tryz.func154, Tryz.ntmps154
  go_wp2_with fail
  go_quiet (fail)
  go_wp2
  go_ret
  exact ⟨rfl, bdrewN (Below.refl _ _) _⟩

theorem pre_iff {s p : List UInt8} : Lib.hasPrefix s p = true ↔ ∃ r, s = p ++ r := by
  unfold Lib.hasPrefix
  rw [List.isPrefixOf_iff_prefix]
  exact ⟨fun ⟨r, h⟩ => ⟨r, h.symm⟩, fun ⟨r, h⟩ => ⟨r, h.symm⟩⟩

/-- a text is in two parts, the first one read -/
def Parted (t : ByteArray) (a : Nat) (U R : List UInt8) : Prop := t.data.toList = U ++ R ∧ a = U.length

theorem Parted.le {t : ByteArray} {a : Nat} {U R : List UInt8} (h : Parted t a U R) : a ≤ t.size := by
  have : t.size = t.data.toList.length := by rw [Array.length_toList]; rfl
  rw [this, h.1, List.length_append, h.2]
  omega

theorem Parted.rest {t : ByteArray} {a : Nat} {U R : List UInt8} (h : Parted t a U R) : (t.extract a t.size).data.toList = R := by
  have e : t.size = t.data.toList.length := by rw [Array.length_toList]; rfl
  rw [ByteArray.data_extract, Array.toList_extract, List.extract_eq_take_drop, e, ← List.length_drop, List.take_length, h.1, h.2, List.drop_left]

theorem Parted.size {t : ByteArray} {a : Nat} {U R : List UInt8} (h : Parted t a U R) : t.size = a + R.length := by
  have : t.size = t.data.toList.length := by rw [Array.length_toList]; rfl
  rw [this, h.1, List.length_append, h.2]

theorem Parted.on {t : ByteArray} {a : Nat} {U p R : List UInt8} (h : Parted t a U (p ++ R)) : Parted t (a + p.length) (U ++ p) R := ⟨by rw [h.1, List.append_assoc], by rw [List.length_append, h.2]⟩

theorem Parted.at_ {t : ByteArray} {a : Nat} {U R : List UInt8} (h : Parted t a U R) (j : Nat) (hj : j < R.length) : ∃ hs : a + j < t.size, t[a + j] = R[j] := by
  have hs : a + j < t.size := by rw [h.size]; omega
  refine ⟨hs, ?_⟩
  show t.data.toList[a + j]'(by rw [Array.length_toList]; exact hs) = R[j]
  have e := h.2
  subst e
  rw [List.getElem_of_eq h.1, List.getElem_append_right (by omega)]
  congr 1
  omega

/-- what mark does -/
def Marked (t s : ByteArray) (a : Nat) (x : Value) (R : List UInt8) (a' : Nat) (x' : Value) : Prop := (x' = x ∧ a' = a + s.size ∧ ∃ R', R = s.data.toList ++ R') ∨ (Bad x' ∧ a' = a ∧ ∀ R', R ≠ s.data.toList ++ R')

theorem mark_g (g a : Nat) (t s : ByteArray) (x : Value) (U R : List UInt8) (w : World) (h : Scan w g t a x) (hx : ErrV x) (hp : Parted t a U R) (hs : t.size ≤ 1048576) (hz : s.size ≤ 1048576) :
    Calls Tryz.prog 153 #[.pointer (some ⟨g, 0, none⟩), .string s] w fun e w' => e = .returned (.tuple #[]) ∧ ∃ a' x', Scan w' g t a' x' ∧ Marked t s a x R a' x' ∧ w.grownBy w' (some g) := by
  have Hx := Lib.hid hx; clear hx
  have hR := hp.rest
  have hle := hp.le
  have hsz := hp.size
  have H := Lib.hid h; clear h
  cases hq : Lib.hasPrefix R s.data.toList
  · have hno : ∀ R', R ≠ s.data.toList ++ R' := fun R' e => by rw [pre_iff.2 ⟨R', e⟩] at hq; cases hq
    have HN := Lib.hid hno; clear hno
    rw [← hR] at hq
    have hr := rest_any g a t x w H.out hle hs
    clear hR hp hsz
    generalize t.extract a t.size = T at *
    go_enter Tryz.func153, Tryz.ntmps153
    go_wp2_with fail
    refine hr.mono ?_
    rintro e w1 ⟨rfl, hb1⟩
    have H1 := Lib.hid (H.out.below hb1)
    have b1 : w.grownBy w1 (some g) := grown_of_below hb1 _
    clear hr
    go_wp2_with fail
    refine (sh_strings_HasPrefix T s w1).mono ?_
    rw [hq]
    rintro e w2 ⟨rfl, rfl⟩
    go_wp2_with fail
    refine (fail_g g a t s x _ H1.out Hx.out).mono ?_
    rintro e w3 ⟨rfl, y, hy, hs3, hb3⟩
    have H3 := Lib.hid hs3; clear hs3
    have Hy := Lib.hid hy; clear hy
    have b3 := grown_trans b1 hb3
    clear hb3 hb1 b1 hq
    go_wp2
    exact bodyPost_ret (v := .tuple #[]) (by simp [results, Tryz.results153, go_sem]) rfl ⟨rfl, a, y, H3.out, Or.inr ⟨Hy.out, rfl, HN.out⟩, b3⟩
  · obtain ⟨R', hR'⟩ := pre_iff.1 hq
    have HM := Lib.hid (show Marked t s a x R (a + s.size) x from Or.inl ⟨rfl, rfl, R', hR'⟩)
    have wa : IntKind.i64.wrap ((a : Int) + (s.size : Int)) = ((a + s.size : Nat) : Int) := by rw [IntKind.wrap_i64]; omega
    rw [← hR] at hq
    have hr := rest_any g a t x w H.out hle hs
    clear hR' hR hp hsz
    generalize t.extract a t.size = T at *
    go_enter Tryz.func153, Tryz.ntmps153
    go_wp2_with fail
    refine hr.mono ?_
    rintro e w1 ⟨rfl, hb1⟩
    have h1 := H.out.below hb1
    have b1 : w.grownBy w1 (some g) := grown_of_below hb1 _
    clear hr
    go_wp2_with fail
    refine (sh_strings_HasPrefix T s w1).mono ?_
    rw [hq]
    rintro e w2 ⟨rfl, rfl⟩
    have H3 := Lib.hid (h1.go (a + s.size))
    obtain ⟨c0, c1, c2, fz, hlt⟩ := h1
    have f1 := fz 1
    have b3 := Lib.hid (grown_setCell b1 ⟨g, 1, none⟩ (Or.inl rfl) (.int .i64 ((a + s.size : Nat) : Int)))
    clear hb1 b1 hq fz c2 c0
    go_wp2
    refine bodyPost_end (v := .tuple #[]) (by simp [results, Tryz.results153, go_sem]) rfl ⟨rfl, a + s.size, x, ?_, HM.out, ?_⟩
    · exact H3.out
    · exact b3.out

theorem mark_any (B g a : Nat) (t s : ByteArray) (x : Value) (U R : List UInt8) (w : World) (h : Scan w g t a x) (hx : ErrV x) (hB : B ≤ g) (hp : Parted t a U R) (hs : t.size ≤ 1048576) (hz : s.size ≤ 1048576) :
    Calls Tryz.prog 153 #[.pointer (some ⟨g, 0, none⟩), .string s] w fun e w' => e = .returned (.tuple #[]) ∧ ∃ a' x', Scan w' g t a' x' ∧ Marked t s a x R a' x' ∧ Below B w w' :=
  (mark_g g a t s x U R w h hx hp hs hz).mono fun e w' ⟨he, a', x', h1, h2, h3⟩ => ⟨he, a', x', h1, h2, grown_below h3 h.lt hB⟩

theorem tooLong_any (b : Nat) (s : ByteArray) (w : World) (h : w.cell? ⟨b, 0, none⟩ = some (.string s)) (hs : s.size ≤ 2 ^ 63 - 1) : Calls Tryz.prog 36 #[.slice (some ⟨b, 0, none⟩) 1 1] w fun e w' => e = .returned (.bool (decide (65536 < (s.size : Int)))) ∧ w = w' := by
  go_enter Tryz.func36, Tryz.ntmps36
  go_wp2_with fail
  go_loop [7] (fun i => ∃ k : Nat, k ≤ 1 ∧ i = .int .i64 k ∧ (k = 1 → ¬ 65536 < s.size)) (fun i => 1 - (intOf i).toNat)
  case atStart => exact ⟨0, by omega, rfl, fun h => by omega⟩
  case round =>
    obtain ⟨k, hk, rfl, hn⟩ := hrel
    rcases (show k = 0 ∨ k = 1 by omega) with rfl | rfl
    · cases d : decide (65536 < (s.size : Int))
      · have d2 : ¬ 65536 < s.size := by simp at d; omega
        go_wp2
        go_round
        case rel => exact ⟨1, by omega, by go_num, fun _ => d2⟩
        case measure => simp [intOf]
      · go_wp2
        go_ret
        exact ⟨rfl, rfl⟩
    · have d : decide (65536 < (s.size : Int)) = false := by have := hn rfl; simp; omega
      go_wp2
      go_ret
      exact ⟨rfl, rfl⟩

end Go.Proofs.YtpackpocnonpiaaGreatDoor

/- Six digits: the text of a number from 0 to 999999 with noughts ahead; contracts of the program's keyedText and the model's l03Wide. Conditions: the library's table of powers of ten is as its text lays it (of the program's alone). -/
namespace Go.Proofs.YtpackpocnonpiaaGreatDoor
open Go.ChangeShapes Go.WideShapes Go.ChangeAt Go.RowKit
set_option linter.unusedVariables false

/-- six digits -/
def sixT (n : Nat) : ByteArray := ⟨#[UInt8.ofNat (48 + n / 100000 % 10), UInt8.ofNat (48 + n / 10000 % 10), UInt8.ofNat (48 + n / 1000 % 10), UInt8.ofNat (48 + n / 100 % 10), UInt8.ofNat (48 + n / 10 % 10), UInt8.ofNat (48 + n % 10)]⟩

theorem sixT_size (n : Nat) : (sixT n).size = 6 := rfl

theorem numT_mil {n : Nat} (h : n ≤ 999999) : numT ((1000000 + n : Nat) : Int) = ⟨#[49]⟩ ++ sixT n := by
  rw [numT_big (by omega), numT_big (by omega), numT_big (by omega), numT_big (by omega), numT_big (by omega), numT_big (by omega), numT_small (by omega)]
  have e0 : (1000000 + n) % 10 = n % 10 := by omega
  have e1 : (1000000 + n) / 10 % 10 = n / 10 % 10 := by omega
  have e2 : (1000000 + n) / 10 / 10 % 10 = n / 100 % 10 := by omega
  have e3 : (1000000 + n) / 10 / 10 / 10 % 10 = n / 1000 % 10 := by omega
  have e4 : (1000000 + n) / 10 / 10 / 10 / 10 % 10 = n / 10000 % 10 := by omega
  have e5 : (1000000 + n) / 10 / 10 / 10 / 10 / 10 % 10 = n / 100000 % 10 := by omega
  have e6 : (1000000 + n) / 10 / 10 / 10 / 10 / 10 / 10 = 1 := by omega
  rw [e0, e1, e2, e3, e4, e5, e6]
  rfl

def zT (k : Nat) : ByteArray := ⟨Array.replicate k 48⟩

theorem zT_succ (k : Nat) (x : ByteArray) : ⟨#[48]⟩ ++ (zT k ++ x) = zT (k + 1) ++ x := by
  apply ByteArray.ext
  simp [ByteArray.data_append, zT, ← Array.append_assoc]
  rw [show #[(48 : UInt8)] = Array.replicate 1 48 from rfl, Array.replicate_append_replicate, Nat.add_comm]

theorem zT_size (k : Nat) : (zT k).size = k := by simp [zT, ByteArray.size]

theorem wide_six {n k : Nat} (h : n ≤ 999999) (hs : (zT k ++ numT (n : Int)).size = 6) : zT k ++ numT (n : Int) = sixT n := by
  rw [ByteArray.size_append, zT_size] at hs
  unfold sixT
  by_cases h1 : n < 10
  · rw [numT_small h1] at hs ⊢
    obtain rfl : k = 5 := by simpa [ByteArray.size] using hs
    rw [show n / 100000 % 10 = 0 by omega, show n / 10000 % 10 = 0 by omega, show n / 1000 % 10 = 0 by omega, show n / 100 % 10 = 0 by omega, show n / 10 % 10 = 0 by omega, show n % 10 = n by omega]
    rfl
  by_cases h2 : n < 100
  · rw [numT_big h1, numT_small (by omega)] at hs ⊢
    obtain rfl : k = 4 := by simpa [ByteArray.size] using hs
    rw [show n / 100000 % 10 = 0 by omega, show n / 10000 % 10 = 0 by omega, show n / 1000 % 10 = 0 by omega, show n / 100 % 10 = 0 by omega, show n / 10 % 10 = n / 10 by omega]
    rfl
  by_cases h3 : n < 1000
  · rw [numT_big h1, numT_big (by omega), numT_small (by omega)] at hs ⊢
    obtain rfl : k = 3 := by simpa [ByteArray.size] using hs
    rw [show n / 100000 % 10 = 0 by omega, show n / 10000 % 10 = 0 by omega, show n / 1000 % 10 = 0 by omega, show n / 100 % 10 = n / 10 / 10 by omega]
    rfl
  by_cases h4 : n < 10000
  · rw [numT_big h1, numT_big (by omega), numT_big (by omega), numT_small (by omega)] at hs ⊢
    obtain rfl : k = 2 := by simpa [ByteArray.size] using hs
    rw [show n / 100000 % 10 = 0 by omega, show n / 10000 % 10 = 0 by omega, show n / 1000 % 10 = n / 10 / 10 / 10 by omega, show n / 100 % 10 = n / 10 / 10 % 10 by omega]
    rfl
  by_cases h5 : n < 100000
  · rw [numT_big h1, numT_big (by omega), numT_big (by omega), numT_big (by omega), numT_small (by omega)] at hs ⊢
    obtain rfl : k = 1 := by simpa [ByteArray.size] using hs
    rw [show n / 100000 % 10 = 0 by omega, show n / 10000 % 10 = n / 10 / 10 / 10 / 10 by omega, show n / 1000 % 10 = n / 10 / 10 / 10 % 10 by omega, show n / 100 % 10 = n / 10 / 10 % 10 by omega]
    rfl
  · rw [numT_big h1, numT_big (by omega), numT_big (by omega), numT_big (by omega), numT_big (by omega), numT_small (by omega)] at hs ⊢
    obtain rfl : k = 0 := by simpa [ByteArray.size] using hs
    rw [show n / 100000 % 10 = n / 10 / 10 / 10 / 10 / 10 by omega, show n / 10000 % 10 = n / 10 / 10 / 10 / 10 % 10 by omega, show n / 1000 % 10 = n / 10 / 10 / 10 % 10 by omega, show n / 100 % 10 = n / 10 / 10 % 10 by omega]
    rfl

theorem numT_six {n : Nat} (h : n ≤ 999999) : (numT (n : Int)).size ≤ 6 := by
  unfold numT Lib.itoa
  rw [if_neg (by omega), Int.toNat_natCast]
  have := dec_len 5 n (by omega)
  simpa [ByteArray.size] using this

theorem cut_one (n : Nat) : (⟨#[49]⟩ ++ sixT n).extract 1 7 = sixT n := by
  apply ByteArray.ext
  simp [ByteArray.data_extract, ByteArray.data_append, sixT]

theorem keyedText_any (n : Nat) (h : n ≤ 999999) (w : World) (ht : Pow w) : Calls Tryz.prog 115 #[.int .i64 n] w fun e w' => e = .returned (.string (sixT n)) ∧ Below w.heap.size w w' := by
  have Ht := Lib.hid ht; clear ht
  have wn : IntKind.i64.wrap (1000000 + (n : Int)) = ((1000000 + n : Nat) : Int) := by rw [IntKind.wrap_i64]; omega
  have E := Lib.hid (numT_mil h)
  have C := Lib.hid (cut_one n)
  have hs : (⟨#[49]⟩ ++ sixT n : ByteArray).size = 7 := by rw [ByteArray.size_append, sixT_size]; rfl
  generalize (⟨#[49]⟩ ++ sixT n : ByteArray) = X at *
  go_enter Tryz.func115, Tryz.ntmps115
  go_wp2_with fail
  refine (itoa_any ((1000000 + n : Nat) : Int) w (by omega) (by omega) Ht.out).mono ?_
  rw [E.out]
  rintro e w1 ⟨rfl, hb1⟩
  go_wp2
  go_ret
  exact ⟨by rw [C.out]; rfl, hb1⟩

end Go.Proofs.YtpackpocnonpiaaGreatDoor

/- Contracts of the model's l03Wide, l03KeyOK, l03Key and DataKey. No conditions. -/
namespace Go.Proofs.YtpackpocnonpiaaGreatDoor
open Go.ChangeShapes Go.WideShapes Go.ChangeAt Go.RowKit
set_option linter.unusedVariables false
set_option linter.unusedSimpArgs false

set_option maxRecDepth 100000 in
theorem wide_any (n : Nat) (h : n ≤ 999999) (w : World) : Calls Tryz.prog 171 #[.int .i64 n, .int .i64 6] w fun e w' => e = .returned (.string (sixT n)) ∧ Below w.heap.size w w' := by
  have h6 := numT_six h
  have HW := Lib.hid (fun k => wide_six (k := k) h)
  have z0 : zT 0 ++ numT (n : Int) = numT (n : Int) := by apply ByteArray.ext; simp [ByteArray.data_append, zT]
  have Z0 := Lib.hid z0; clear z0
  go_enter Tryz.func171, Tryz.ntmps171
  go_wp2_with fail
  refine (digits_int (n : Int) w (by omega) (by omega)).mono ?_
  rintro e w1 ⟨rfl, hb1⟩
  go_wp2_with fail
  go_loopw [5] (fun t wr => ∃ k : Nat, k + (numT (n : Int)).size ≤ 6 ∧ t = .string (zT k ++ numT (n : Int)) ∧ wr = w1) (fun t _ => match t with | .string s => 6 - s.size | _ => 0)
  case atStart => exact ⟨0, by omega, by rw [Z0.out], rfl⟩
  case round =>
    obtain ⟨k, hk, rfl, rfl⟩ := hrel
    have hz : (zT k ++ numT (n : Int)).size = k + (numT (n : Int)).size := by rw [ByteArray.size_append, zT_size]
    have SC := Lib.hid (zT_succ k (numT (n : Int)))
    have hz2 : (zT (k + 1) ++ numT (n : Int)).size = k + 1 + (numT (n : Int)).size := by rw [ByteArray.size_append, zT_size]
    have HK := Lib.hid (HW.out k)
    generalize zT k ++ numT (n : Int) = X at *
    by_cases hlt : X.size < 6
    · have hd : decide ((X.size : Int) < 6) = true := by simp; omega
      have hz3 : ¬ 9223372036854775807 < 1 + X.size := by omega
      go_wp2_with fail
      refine ⟨⟨k + 1, by omega, by rw [SC.out], trivial⟩, ?_⟩
      rw [SC.out]
      show 6 - (zT (k + 1) ++ numT (n : Int)).size < 6 - X.size
      omega
    · have hd : decide ((X.size : Int) < 6) = false := by simp; omega
      have hx : X = sixT n := HK.out (by omega)
      subst hx
      go_wp2
      go_ret
      exact ⟨rfl, hb1⟩

/-- a tier and two numbers of at most six digits -/
def KeyNP (t n m : Int) : Prop := 0 ≤ t ∧ t ≤ 2 ∧ 0 ≤ n ∧ n ≤ 999999 ∧ 0 ≤ m ∧ m ≤ 999999

theorem keyP_iff (t n m : Int) : KeyNP t n m ↔ inB t 0 2 = true ∧ inB n 0 999999 = true ∧ inB m 0 999999 = true := by
  simp only [KeyNP, inB_iff]
  constructor
  · intro ⟨a, b, c, d, e, f⟩; exact ⟨⟨a, b⟩, ⟨c, d⟩, ⟨e, f⟩⟩
  · intro ⟨⟨a, b⟩, ⟨c, d⟩, ⟨e, f⟩⟩; exact ⟨a, b, c, d, e, f⟩

theorem l03KeyOK_any (t n m : Int) (w : World) : Calls Tryz.prog 144 #[.int .i64 t, .int .i64 n, .int .i64 m] w fun e w' => ∃ b : Bool, (b = true ↔ KeyNP t n m) ∧ e = .returned (.bool b) ∧ w = w' := by
  have hk := keyP_iff t n m
  cases h1 : inB t 0 2 <;> cases h2 : inB n 0 999999 <;> cases h3 : inB m 0 999999 <;> rw [h1, h2, h3] at hk
  all_goals
    have HK := Lib.hid hk; clear hk
    go_enter Tryz.func144, Tryz.ntmps144
    go_wp2_with (go_at_call 80; refine (inL_any _ _ _ _).mono ?_; rintro e w' ⟨rfl, rfl⟩)
    go_ret
    refine ⟨_, ?_, rfl, rfl⟩
    rw [HK.out]
    simp [h1, h2, h3]

/-- what stands ahead of a tier's keys, with the slash -/
def pathT (t : Nat) : ByteArray := match t with
  | 0 => ⟨#[114, 97, 119, 47]⟩
  | 1 => ⟨#[116, 49, 47]⟩
  | _ => ⟨#[116, 50, 47]⟩

/-- a data key -/
def keyT (t n m : Nat) : ByteArray := pathT t ++ sixT n ++ ⟨#[45]⟩ ++ sixT m

theorem six_new (W w1 : World) (k : Nat) (x a b c : ByteArray) (ty : TypeId) (hk : #[Value.string a, Value.string b, Value.string c][k]? = some (.string x)) (hb : Below (W.alloc (.cells #[.string a, .string b, .string c] ty)).heap.size (W.alloc (.cells #[.string a, .string b, .string c] ty)) w1) : w1.cell? ⟨W.heap.size, k, none⟩ = some (.string x) :=
  (hb.cell (p := ⟨W.heap.size, k, none⟩) (by simp)).trans (by rw [World.cell?_alloc_new]; exact hk)

theorem six_lt (W w1 : World) (o : Obj) (hb : Below (W.alloc o).heap.size (W.alloc o) w1) : W.heap.size < w1.heap.size := by
  have := hb.size
  simp at this
  omega

theorem six_newD (W w1 : World) (k : Nat) (x a b c : ByteArray) (ty : TypeId) (hk : #[Value.string a, Value.string b, Value.string c][k]? = some (.string x)) (hb : Below (W.alloc (.cells #[.string a, .string b, .string c] ty)).drew.heap.size (W.alloc (.cells #[.string a, .string b, .string c] ty)).drew w1) : w1.cell? ⟨W.heap.size, k, none⟩ = some (.string x) :=
  six_new W w1 k x a b c ty hk ((Below.refl _ _).drew.trans hb)

theorem six_ltD (W w1 : World) (o : Obj) (hb : Below (W.alloc o).drew.heap.size (W.alloc o).drew w1) : W.heap.size < w1.heap.size := six_lt W w1 o ((Below.refl _ _).drew.trans hb)

theorem six_bD (w w1 : World) (o : Obj) (hb : Below (w.alloc o).drew.heap.size (w.alloc o).drew w1) : Below w.heap.size w w1 := bnext (bal (Below.refl _ _) o) ((Below.refl _ _).drew.trans hb)

end Go.Proofs.YtpackpocnonpiaaGreatDoor

/- Contract of the model's l03Fixed over six bytes, and of l01Bit. No conditions. -/
namespace Go.Proofs.YtpackpocnonpiaaGreatDoor
open Go.ChangeShapes Go.WideShapes Go.ChangeAt Go.RowKit
set_option linter.unusedVariables false
set_option linter.unusedSimpArgs false

theorem l01Bit_any (b : Bool) (w : World) : Calls Tryz.prog 142 #[.bool b] w fun e w' => e = .returned (.int .i64 (if b then 1 else 0)) ∧ w = w' := by
  cases b
  · go_enter Tryz.func142, Tryz.ntmps142
    go_wp2
    go_ret
    exact ⟨rfl, rfl⟩
  · go_enter Tryz.func142, Tryz.ntmps142
    go_wp2
    go_ret
    exact ⟨rfl, rfl⟩

theorem byte_dig (n : Nat) (h : n < 10) : (UInt8.ofNat (48 + n)).toNat = 48 + n := by
  rw [UInt8.toNat_ofNat']
  omega

theorem sixT_at {m i : Nat} (h : i < 6) : ((sixT m)[i]'(by rw [sixT_size]; exact h)).toNat = 48 + m / 10 ^ (5 - i) % 10 := by
  match i, h with
  | 0, _ => exact byte_dig _ (by omega)
  | 1, _ => exact byte_dig _ (by omega)
  | 2, _ => exact byte_dig _ (by omega)
  | 3, _ => exact byte_dig _ (by omega)
  | 4, _ => exact byte_dig _ (by omega)
  | 5, _ => exact (byte_dig _ (by omega)).trans (by simp)

theorem next_six {m i : Nat} (h : i < 6) : 10 * (m / 10 ^ (6 - i)) + m / 10 ^ (5 - i) % 10 = m / 10 ^ (5 - i) := by
  match i, h with
  | 0, _ => show 10 * (m / 1000000) + m / 100000 % 10 = m / 100000; omega
  | 1, _ => show 10 * (m / 100000) + m / 10000 % 10 = m / 10000; omega
  | 2, _ => show 10 * (m / 10000) + m / 1000 % 10 = m / 1000; omega
  | 3, _ => show 10 * (m / 1000) + m / 100 % 10 = m / 100; omega
  | 4, _ => show 10 * (m / 100) + m / 10 % 10 = m / 10; omega
  | 5, _ => show 10 * (m / 10) + m / 1 % 10 = m / 1; omega

/-- what l03Fixed answers to six bytes -/
def FixOf (t : ByteArray) (v : Int) (b : Bool) : Prop := (b = false → v = 0) ∧ 0 ≤ v ∧ v ≤ 999999 ∧ ∀ m : Nat, m ≤ 999999 → t = sixT m → b = true ∧ v = m

def FixRes (t : ByteArray) (w : World) (e : Ending) (w' : World) : Prop := ∃ v b, e = .returned (.tuple #[.int .i64 v, .bool b]) ∧ FixOf t v b ∧ w = w'

set_option maxRecDepth 100000 in
theorem fixed_any (t : ByteArray) (h6 : t.size = 6) (w : World) : Calls Tryz.prog 143 #[.string t] w (FixRes t w) := by
  go_enter Tryz.func143, Tryz.ntmps143
  go_wp2_with fail
  go_loopw [4, 5] (fun n i wr => ∃ (k v : Nat), k ≤ 6 ∧ i = .int .i64 k ∧ n = .int .i64 v ∧ Hid (v < 10 ^ k) ∧ Hid (∀ m : Nat, m ≤ 999999 → t = sixT m → v = m / 10 ^ (6 - k)) ∧ wr = w) (fun _ i _ => 6 - (intOf i).toNat)
  case atStart => exact ⟨0, 0, by omega, rfl, rfl, Lib.hid (by omega), Lib.hid (fun m hm _ => by show 0 = m / 1000000; omega), rfl⟩
  case round =>
    obtain ⟨k, v, hk, rfl, rfl, Hv, Hm, rfl⟩ := hrel
    by_cases hlt : k < 6
    · have hks : k < t.size := by omega
      have hv6 : v < 100000 := Nat.lt_of_lt_of_le Hv.out (Nat.le_trans (Nat.pow_le_pow_right (by omega) (show k ≤ 5 by omega)) (by omega))
      have hb := t[k].toNat_lt
      cases hd : digB (t[k].toNat : Int)
      · have Hf := Lib.hid (show FixOf t 0 false from ⟨fun _ => rfl, by omega, by omega, fun m hm e => by
          subst e
          have := sixT_at (m := m) hlt
          simp [digB] at hd
          omega⟩)
        have hc : (k : Int) < (t.size : Int) := by omega
        go_wp2_with (go_at_call 169; refine (specDigit_any _ _).mono ?_; rintro e w' ⟨rfl, rfl⟩)
        exact bodyPost_ret (v := .tuple #[.int .i64 0, .bool false]) (by simp [results, Tryz.results143, go_sem]) rfl ⟨0, false, rfl, Hf.out, rfl⟩
      · have hdd : 48 ≤ t[k].toNat ∧ t[k].toNat ≤ 57 := by simp [digB] at hd; omega
        have w1 : IntKind.u8.wrap ((t[k].toNat : Int) - 48) = (t[k].toNat : Int) - 48 := by rw [IntKind.wrap_u8]; omega
        have w2 : IntKind.i64.wrap ((t[k].toNat : Int) - 48) = (t[k].toNat : Int) - 48 := by rw [IntKind.wrap_i64]; omega
        have w3 : IntKind.i64.wrap (10 * (v : Int)) = 10 * (v : Int) := by rw [IntKind.wrap_i64]; omega
        have w4 : IntKind.i64.wrap (10 * (v : Int) + ((t[k].toNat : Int) - 48)) = 10 * (v : Int) + ((t[k].toNat : Int) - 48) := by rw [IntKind.wrap_i64]; omega
        have Hv2 := Lib.hid (show 10 * v + (t[k].toNat - 48) < 10 ^ (k + 1) by have := Hv.out; rw [Nat.pow_succ]; omega)
        have Hm2 := Lib.hid (show ∀ m : Nat, m ≤ 999999 → t = sixT m → 10 * v + (t[k].toNat - 48) = m / 10 ^ (6 - (k + 1)) from fun m hm e => by
          have h1 := Hm.out m hm e
          subst e
          have h2 := sixT_at (m := m) hlt
          have h3 := next_six (m := m) hlt
          rw [show 6 - (k + 1) = 5 - k by omega, ← h3, ← h1]
          omega)
        have hc : (k : Int) < (t.size : Int) := by omega
        have ec : (10 * (v : Int) + ((t[k].toNat : Int) - 48)) = ((10 * v + (t[k].toNat - 48) : Nat) : Int) := by omega
        have Ec := Lib.hid ec; clear ec hb
        go_wp2_with (go_at_call 169; refine (specDigit_any _ _).mono ?_; rintro e w' ⟨rfl, rfl⟩)
        exact ⟨⟨k + 1, 10 * v + (t[k].toNat - 48), by omega, by go_num, by rw [← Ec.out], Hv2, Hm2, trivial⟩, by simp [intOf]; omega⟩
    · obtain rfl : k = 6 := by omega
      have Hf := Lib.hid (show FixOf t v true from ⟨fun h => (by cases h), by omega, by have := Hv.out; omega, fun m hm e => ⟨rfl, by have := Hm.out m hm e; simp at this; omega⟩⟩)
      have hc : ¬ (6 : Int) < (t.size : Int) := by omega
      go_wp2
      exact bodyPost_ret (v := .tuple #[.int .i64 v, .bool true]) (by simp [results, Tryz.results143, go_sem]) rfl ⟨v, true, rfl, Hf.out, rfl⟩

end Go.Proofs.YtpackpocnonpiaaGreatDoor

/- Contract of the program's scanner.keyed: six digits, or a fault. Conditions: none beside a text's length. -/
namespace Go.Proofs.YtpackpocnonpiaaGreatDoor
open Go.ChangeShapes Go.WideShapes Go.ChangeAt Go.RowKit
set_option linter.unusedVariables false
set_option linter.unusedSimpArgs false

/-- what digits make -/
def dvalK (l : List UInt8) : Nat := l.foldl (fun n b => 10 * n + (b.toNat - 48)) 0

def isDigK (b : UInt8) : Prop := 48 ≤ b.toNat ∧ b.toNat ≤ 57

theorem dvalK_snoc (l : List UInt8) (b : UInt8) : dvalK (l ++ [b]) = 10 * dvalK l + (b.toNat - 48) := by
  unfold dvalK
  rw [List.foldl_append]
  rfl

theorem byte_of {b : UInt8} {n : Nat} (h : isDigK b) (e : n = b.toNat - 48) : UInt8.ofNat (48 + n) = b := by
  apply UInt8.toNat_inj.1
  obtain ⟨h1, h2⟩ := h
  rw [UInt8.toNat_ofNat']
  omega

theorem six_of (l : List UInt8) (hl : l.length = 6) (h : ∀ b ∈ l, isDigK b) : l = (sixT (dvalK l)).data.toList ∧ dvalK l ≤ 999999 := by
  match l, hl with
  | [a, b, c, d, e, f], _ =>
    have ha := h a (by simp); have hb := h b (by simp); have hc := h c (by simp); have hd := h d (by simp); have he := h e (by simp); have hf := h f (by simp)
    have hv : dvalK [a, b, c, d, e, f] = 100000 * (a.toNat - 48) + 10000 * (b.toNat - 48) + 1000 * (c.toNat - 48) + 100 * (d.toNat - 48) + 10 * (e.toNat - 48) + (f.toNat - 48) := by
      simp only [dvalK, List.foldl_cons, List.foldl_nil]
      omega
    have ha' := ha; have hb' := hb; have hc' := hc; have hd' := hd; have he' := he; have hf' := hf
    unfold isDigK at ha' hb' hc' hd' he' hf'
    refine ⟨?_, by omega⟩
    unfold sixT
    rw [byte_of ha (by omega), byte_of hb (by omega), byte_of hc (by omega), byte_of hd (by omega), byte_of he (by omega), byte_of hf (by omega)]

theorem six_digs (m : Nat) : ∀ b ∈ (sixT m).data.toList, isDigK b := by
  intro b hb
  obtain ⟨i, hi, e⟩ := List.mem_iff_getElem.1 hb
  have h6 : i < 6 := by simpa [sixT] using hi
  have e2 : (sixT m)[i]'(by rw [sixT_size]; exact h6) = b := e
  have := sixT_at (m := m) h6
  rw [e2] at this
  unfold isDigK
  omega

theorem dvalK_six {m : Nat} (h : m ≤ 999999) : dvalK (sixT m).data.toList = m := by
  simp only [sixT, dvalK, List.foldl_cons, List.foldl_nil]
  rw [byte_dig _ (by omega), byte_dig _ (by omega), byte_dig _ (by omega), byte_dig _ (by omega), byte_dig _ (by omega), byte_dig _ (by omega)]
  omega

theorem atEnd_b (g a : Nat) (t : ByteArray) (x : Value) (b : Bool) (w : World) (h : Scan w g t a x) (hs : t.size ≤ 1048576) (hb : ((a : Int) == (t.size : Int)) = b) : Calls Tryz.prog 154 #[.pointer (some ⟨g, 0, none⟩)] w fun e w' => e = .returned (.bool b) ∧ Below w.heap.size w w' := by
  subst hb
  exact atEnd_any g a t x w h hs

theorem isDigit_b (n : Int) (b : Bool) (h : digB n = b) (w : World) : Calls Tryz.prog 197 #[.int .u8 n] w fun e w' => e = .returned (.bool b) ∧ w = w' := by
  subst h
  exact isDigit_any n w

/-- what keyed does -/
def Keyed (t : ByteArray) (R : List UInt8) (a : Nat) (x : Value) (v a' : Nat) (x' : Value) : Prop := (x' = x ∧ a' = a + 6 ∧ v ≤ 999999 ∧ ∃ R', R = (sixT v).data.toList ++ R') ∨ (Bad x' ∧ a' ≤ t.size ∧ ∀ m R', R ≠ (sixT m).data.toList ++ R')

theorem six_len (m : Nat) : (sixT m).data.toList.length = 6 := rfl

set_option maxRecDepth 100000 in
set_option maxHeartbeats 1000000 in
theorem keyed_any (B g a : Nat) (t : ByteArray) (x : Value) (U R : List UInt8) (w : World) (h : Scan w g t a x) (hx : ErrV x) (hB : B ≤ g) (hp : Parted t a U R) (hs : t.size ≤ 1048576) :
    Calls Tryz.prog 152 #[.pointer (some ⟨g, 0, none⟩)] w fun e w' => ∃ (v a' : Nat) (x' : Value), e = .returned (.int .i64 v) ∧ Scan w' g t a' x' ∧ Keyed t R a x v a' x' ∧ Below B w w' := by
  have Hx := Lib.hid hx; clear hx
  have H := Lib.hid h; clear h
  have HP := Lib.hid hp
  have hsz := hp.size
  clear hp
  go_enter Tryz.func152, Tryz.ntmps152
  go_wp2_with fail
  go_loopw [3, 4] (fun n i wr => ∃ (j v p : Nat), p = a + j ∧ j ≤ 6 ∧ i = .int .i64 j ∧ n = .int .i64 v ∧ Hid (Scan wr g t p x) ∧ j ≤ R.length ∧ Hid (v < 10 ^ j ∧ v = dvalK (R.take j) ∧ ∀ b ∈ R.take j, isDigK b) ∧ Below B w wr) (fun _ i _ => 6 - (intOf i).toNat)
  case atStart => exact ⟨0, 0, a, by omega, by omega, rfl, rfl, H, by omega, Lib.hid ⟨by omega, rfl, by simp⟩, Below.refl _ _⟩
  case round =>
    obtain ⟨j, v, p, hpj, hj, rfl, rfl, HS, hjR, HV, hb⟩ := hrel
    by_cases hlt : j < 6
    · by_cases hend : j = R.length
      · have e0 : ((p : Int) == (t.size : Int)) = true := by simp; omega
        have HN := Lib.hid (show ∀ m R', R ≠ (sixT m).data.toList ++ R' from fun m R' e => by
          have := congrArg List.length e
          rw [List.length_append, six_len] at this
          omega)
        have Hle := Lib.hid (show p ≤ t.size by omega)
        have Hpj := Lib.hid hpj
        clear HV hpj hsz
        go_wp2_with fail
        have SC := Lib.hid (HS.out.below (Below.refl _ wr).drew)
        refine wp_region_noPanic ?_
        refine wp_region_held_drew (S := (fun w' => w'.cell? ⟨g, 0, none⟩ = some (.string t) ∧ w'.cell? ⟨g, 1, none⟩ = some (.int .i64 (p : Int)))) (by kernel_rfl) (⟨SC.out.c0, SC.out.c1⟩) (fun hHeld => ?_)
        refine wpAnyH_take (i := 0) (oi := { dst := some 6, op := Op.move (Operand.tmp 0), type := 205, pos := "l03_codec.go:218", after := #[], guard := none }) (v := ?vb0) rfl (by kernel_rfl) (by kernel_rfl) (by kernel_rfl) (fun _ _ _ h => h) (Or.inl ⟨by rfl, ?hyb0⟩) (by assumption) ?restb0
        case hyb0 => intro w hSw; (try dsimp only at hSw); (obtain ⟨s0, s1⟩ := hSw); (first | (go_simp; done) | (go_simp; with_reducible rfl) | (with_reducible rfl))
        try simp only [Act.put, List.setIfInBounds_toArray, List.set_cons_zero, List.set_cons_succ]
        refine wpAnyH_ready (rs := [1]) (by kernel_rfl) (by simp) ?_
        refine AllReadyH.cons (o := { dst := some 7, op := Op.call { callee := Callee.value (Operand.func 154), args := #[Operand.tmp 6], argTypes := #[205] }, type := 4, pos := "l03_codec.go:218", after := #[{ on := 0, ground := Ground.data }], guard := none }) rfl (fun K hK => ?_) AllReadyH.nil
        go_simp
        refine (atEnd_b g p t x true wr.drew SC.out hs e0).mono ?_
        rintro e w1 ⟨rfl, hb1⟩
        have SC1 := Lib.hid (SC.out.below hb1)
        go_wp2_with fail
        refine hK.out _ _ (⟨SC1.out.c0, SC1.out.c1⟩) (fun hHeld => ?_)
        clear hK K
        try simp only [Act.put, List.setIfInBounds_toArray, List.set_cons_zero, List.set_cons_succ]
        refine wpAnyH_take (i := 2) (oi := { dst := some 8, op := Op.move (Operand.tmp 7), type := 4, pos := "l03_codec.go:218", after := #[{ on := 1, ground := Ground.data }, { on := 1, ground := Ground.chain }], guard := none }) (v := ?vb2) rfl (by kernel_rfl) (by kernel_rfl) (by kernel_rfl) (fun _ _ _ h => h) (Or.inl ⟨by rfl, ?hyb2⟩) (by assumption) ?restb2
        case hyb2 => intro w hSw; (try dsimp only at hSw); (obtain ⟨s0, s1⟩ := hSw); (first | (go_simp; done) | (go_simp; with_reducible rfl) | (with_reducible rfl))
        try simp only [Act.put, List.setIfInBounds_toArray, List.set_cons_zero, List.set_cons_succ]
        refine wpAnyH_take (i := 3) (oi := { dst := some 9, op := Op.move (Operand.tmp 0), type := 205, pos := "l03_codec.go:218", after := #[{ on := 2, ground := Ground.guard }], guard := some (2, false) }) (v := undef) rfl (by kernel_rfl) (by kernel_rfl) (by kernel_rfl) (fun _ _ _ h => h) (Or.inr ⟨by rfl, rfl⟩) (by assumption) ?_
        try simp only [Act.put, List.setIfInBounds_toArray, List.set_cons_zero, List.set_cons_succ]
        refine wpAnyH_take (i := 4) (oi := { dst := some 10, op := Op.nilCheck (Operand.tmp 9), type := 0, pos := "l03_codec.go:218", after := #[{ on := 3, ground := Ground.data }, { on := 2, ground := Ground.guard }], guard := some (2, false) }) (v := undef) rfl (by kernel_rfl) (by kernel_rfl) (by kernel_rfl) (fun _ _ _ h => h) (Or.inr ⟨by rfl, rfl⟩) (by assumption) ?_
        try simp only [Act.put, List.setIfInBounds_toArray, List.set_cons_zero, List.set_cons_succ]
        refine wpAnyH_take (i := 5) (oi := { dst := some 11, op := Op.fieldAddr 209 (Operand.tmp 10) 0, type := 0, pos := "l03_codec.go:218", after := #[{ on := 4, ground := Ground.data }, { on := 2, ground := Ground.guard }], guard := some (2, false) }) (v := undef) rfl (by kernel_rfl) (by kernel_rfl) (by kernel_rfl) (fun _ _ _ h => h) (Or.inr ⟨by rfl, rfl⟩) (by assumption) ?_
        try simp only [Act.put, List.setIfInBounds_toArray, List.set_cons_zero, List.set_cons_succ]
        refine wpAnyH_take (i := 6) (oi := { dst := some 12, op := Op.load 9 (Operand.tmp 11), type := 9, pos := "l03_codec.go:218", after := #[{ on := 5, ground := Ground.data }, { on := 2, ground := Ground.guard }], guard := some (2, false) }) (v := undef) rfl (by kernel_rfl) (by kernel_rfl) (by kernel_rfl) (fun _ _ _ h => h) (Or.inr ⟨by rfl, rfl⟩) (by assumption) ?_
        try simp only [Act.put, List.setIfInBounds_toArray, List.set_cons_zero, List.set_cons_succ]
        refine wpAnyH_take (i := 7) (oi := { dst := some 13, op := Op.move (Operand.tmp 0), type := 205, pos := "l03_codec.go:218", after := #[{ on := 2, ground := Ground.guard }], guard := some (2, false) }) (v := undef) rfl (by kernel_rfl) (by kernel_rfl) (by kernel_rfl) (fun _ _ _ h => h) (Or.inr ⟨by rfl, rfl⟩) (by assumption) ?_
        try simp only [Act.put, List.setIfInBounds_toArray, List.set_cons_zero, List.set_cons_succ]
        refine wpAnyH_take (i := 8) (oi := { dst := some 14, op := Op.nilCheck (Operand.tmp 13), type := 0, pos := "l03_codec.go:218", after := #[{ on := 7, ground := Ground.data }, { on := 2, ground := Ground.guard }], guard := some (2, false) }) (v := undef) rfl (by kernel_rfl) (by kernel_rfl) (by kernel_rfl) (fun _ _ _ h => h) (Or.inr ⟨by rfl, rfl⟩) (by assumption) ?_
        try simp only [Act.put, List.setIfInBounds_toArray, List.set_cons_zero, List.set_cons_succ]
        refine wpAnyH_take (i := 9) (oi := { dst := some 15, op := Op.fieldAddr 209 (Operand.tmp 14) 1, type := 0, pos := "l03_codec.go:218", after := #[{ on := 8, ground := Ground.data }, { on := 2, ground := Ground.guard }], guard := some (2, false) }) (v := undef) rfl (by kernel_rfl) (by kernel_rfl) (by kernel_rfl) (fun _ _ _ h => h) (Or.inr ⟨by rfl, rfl⟩) (by assumption) ?_
        try simp only [Act.put, List.setIfInBounds_toArray, List.set_cons_zero, List.set_cons_succ]
        refine wpAnyH_take (i := 10) (oi := { dst := some 16, op := Op.load 3 (Operand.tmp 15), type := 3, pos := "l03_codec.go:218", after := #[{ on := 9, ground := Ground.data }, { on := 2, ground := Ground.guard }], guard := some (2, false) }) (v := undef) rfl (by kernel_rfl) (by kernel_rfl) (by kernel_rfl) (fun _ _ _ h => h) (Or.inr ⟨by rfl, rfl⟩) (by assumption) ?_
        try simp only [Act.put, List.setIfInBounds_toArray, List.set_cons_zero, List.set_cons_succ]
        refine wpAnyH_take (i := 11) (oi := { dst := some 17, op := Op.index 9 (Operand.tmp 12) (Operand.tmp 16), type := 5, pos := "l03_codec.go:218", after := #[{ on := 6, ground := Ground.data }, { on := 10, ground := Ground.data }, { on := 2, ground := Ground.guard }], guard := some (2, false) }) (v := undef) rfl (by kernel_rfl) (by kernel_rfl) (by kernel_rfl) (fun _ _ _ h => h) (Or.inr ⟨by rfl, rfl⟩) (by assumption) ?_
        try simp only [Act.put, List.setIfInBounds_toArray, List.set_cons_zero, List.set_cons_succ]
        refine wpAnyH_take (i := 12) (oi := { dst := some 18, op := Op.call { callee := Callee.value (Operand.func 197), args := #[Operand.tmp 17], argTypes := #[5] }, type := 4, pos := "l03_codec.go:218", after := #[{ on := 11, ground := Ground.data }, { on := 2, ground := Ground.chain }, { on := 2, ground := Ground.guard }], guard := some (2, false) }) (v := undef) rfl (by kernel_rfl) (by kernel_rfl) (by kernel_rfl) (fun _ _ _ h => h) (Or.inr ⟨by rfl, rfl⟩) (by assumption) ?_
        try simp only [Act.put, List.setIfInBounds_toArray, List.set_cons_zero, List.set_cons_succ]
        refine wpAnyH_take (i := 13) (oi := { dst := some 19, op := Op.unOp UnOp.not 4 (Operand.tmp 18), type := 4, pos := "l03_codec.go:218", after := #[{ on := 12, ground := Ground.data }, { on := 2, ground := Ground.guard }], guard := some (2, false) }) (v := undef) rfl (by kernel_rfl) (by kernel_rfl) (by kernel_rfl) (fun _ _ _ h => h) (Or.inr ⟨by rfl, rfl⟩) (by assumption) ?_
        try simp only [Act.put, List.setIfInBounds_toArray, List.set_cons_zero, List.set_cons_succ]
        refine wpAnyH_take (i := 14) (oi := { dst := some 20, op := Op.pick (Operand.tmp 8) (Operand.const (Value.bool true)) (Operand.tmp 19), type := 4, pos := "l03_codec.go:218", after := #[{ on := 2, ground := Ground.data }, { on := 13, ground := Ground.data }], guard := none }) (v := ?vb14) rfl (by kernel_rfl) (by kernel_rfl) (by kernel_rfl) (fun _ _ _ h => h) (Or.inl ⟨by rfl, ?hyb14⟩) (by assumption) ?restb14
        case hyb14 => intro w hSw; (try dsimp only at hSw); (obtain ⟨s0, s1⟩ := hSw); (first | (go_simp; done) | (go_simp; with_reducible rfl) | (with_reducible rfl))
        try simp only [Act.put, List.setIfInBounds_toArray, List.set_cons_zero, List.set_cons_succ]
        refine wpAnyH_done (by kernel_rfl) ?_ _
        refine NoPanic.normal ?_
        have b1 : Below B w w1 := hb.trans ((Below.refl _ _).drew.trans (hb1.mono (Nat.le_of_lt (Nat.lt_of_le_of_lt hB SC.out.lt))))
        go_wp2_with fail
        refine (fail_any B g p t _ x w1 SC1.out Hx.out hB).mono ?_
        rintro e w3 ⟨rfl, y, hy, hs3, hb3⟩
        have H3 := Lib.hid hs3; clear hs3
        have Hy := Lib.hid hy; clear hy
        have b3 := b1.trans hb3
        clear hb3 hb1 b1 SC SC1 HS hHeld
        go_wp2
        go_ret
        exact ⟨0, p, y, rfl, H3.out, Or.inr ⟨Hy.out, Hle.out, HN.out⟩, b3⟩
      · have hjl : j < R.length := by omega
        obtain ⟨hat, hRj⟩ := HP.out.at_ j hjl
        rw [← hpj] at hat
        have hRj : t[p] = R[j] := by rw [← hRj]; congr 1
        have e0 : ((p : Int) == (t.size : Int)) = false := by simp; omega
        have i0 : (0 : Int) ≤ (p : Int) := by omega
        have i1 : (p : Int) < (t.size : Int) := by omega
        have hbyte := t[p].toNat_lt
        cases hd : digB (t[p].toNat : Int)
        · have HN := Lib.hid (show ∀ m R', R ≠ (sixT m).data.toList ++ R' from fun m R' e => by
            have hm : R[j] ∈ (sixT m).data.toList := by
              rw [List.getElem_of_eq e, List.getElem_append_left (by rw [six_len]; exact hlt)]
              exact List.getElem_mem _
            have := six_digs m _ hm
            rw [← hRj] at this
            unfold isDigK at this
            simp [digB] at hd
            omega)
          have Hle := Lib.hid (show p ≤ t.size by omega)
          have Hpj := Lib.hid hpj
          clear HV hRj hpj hsz
          go_wp2_with fail
          have SC := Lib.hid (HS.out.below (Below.refl _ wr).drew)
          refine wp_region_noPanic ?_
          refine wp_region_held_drew (S := (fun w' => w'.cell? ⟨g, 0, none⟩ = some (.string t) ∧ w'.cell? ⟨g, 1, none⟩ = some (.int .i64 (p : Int)))) (by kernel_rfl) (⟨SC.out.c0, SC.out.c1⟩) (fun hHeld => ?_)
          refine wpAnyH_take (i := 0) (oi := { dst := some 6, op := Op.move (Operand.tmp 0), type := 205, pos := "l03_codec.go:218", after := #[], guard := none }) (v := ?vc0) rfl (by kernel_rfl) (by kernel_rfl) (by kernel_rfl) (fun _ _ _ h => h) (Or.inl ⟨by rfl, ?hyc0⟩) (by assumption) ?restc0
          case hyc0 => intro w hSw; (try dsimp only at hSw); (obtain ⟨s0, s1⟩ := hSw); (first | (go_simp; done) | (go_simp; with_reducible rfl) | (with_reducible rfl))
          try simp only [Act.put, List.setIfInBounds_toArray, List.set_cons_zero, List.set_cons_succ]
          refine wpAnyH_ready (rs := [1]) (by kernel_rfl) (by simp) ?_
          refine AllReadyH.cons (o := { dst := some 7, op := Op.call { callee := Callee.value (Operand.func 154), args := #[Operand.tmp 6], argTypes := #[205] }, type := 4, pos := "l03_codec.go:218", after := #[{ on := 0, ground := Ground.data }], guard := none }) rfl (fun K hK => ?_) AllReadyH.nil
          go_simp
          refine (atEnd_b g p t x false wr.drew SC.out hs e0).mono ?_
          rintro e w1 ⟨rfl, hb1⟩
          have SC1 := Lib.hid (SC.out.below hb1)
          go_wp2_with fail
          refine hK.out _ _ (⟨SC1.out.c0, SC1.out.c1⟩) (fun hHeld => ?_)
          clear hK K
          try simp only [Act.put, List.setIfInBounds_toArray, List.set_cons_zero, List.set_cons_succ]
          refine wpAnyH_take (i := 2) (oi := { dst := some 8, op := Op.move (Operand.tmp 7), type := 4, pos := "l03_codec.go:218", after := #[{ on := 1, ground := Ground.data }, { on := 1, ground := Ground.chain }], guard := none }) (v := ?vc2) rfl (by kernel_rfl) (by kernel_rfl) (by kernel_rfl) (fun _ _ _ h => h) (Or.inl ⟨by rfl, ?hyc2⟩) (by assumption) ?restc2
          case hyc2 => intro w hSw; (try dsimp only at hSw); (obtain ⟨s0, s1⟩ := hSw); (first | (go_simp; done) | (go_simp; with_reducible rfl) | (with_reducible rfl))
          try simp only [Act.put, List.setIfInBounds_toArray, List.set_cons_zero, List.set_cons_succ]
          refine wpAnyH_take (i := 3) (oi := { dst := some 9, op := Op.move (Operand.tmp 0), type := 205, pos := "l03_codec.go:218", after := #[{ on := 2, ground := Ground.guard }], guard := some (2, false) }) (v := ?vc3) rfl (by kernel_rfl) (by kernel_rfl) (by kernel_rfl) (fun _ _ _ h => h) (Or.inl ⟨by rfl, ?hyc3⟩) (by assumption) ?restc3
          case hyc3 => intro w hSw; (try dsimp only at hSw); (obtain ⟨s0, s1⟩ := hSw); (first | (go_simp; done) | (go_simp; with_reducible rfl) | (with_reducible rfl))
          try simp only [Act.put, List.setIfInBounds_toArray, List.set_cons_zero, List.set_cons_succ]
          refine wpAnyH_take (i := 4) (oi := { dst := some 10, op := Op.nilCheck (Operand.tmp 9), type := 0, pos := "l03_codec.go:218", after := #[{ on := 3, ground := Ground.data }, { on := 2, ground := Ground.guard }], guard := some (2, false) }) (v := ?vc4) rfl (by kernel_rfl) (by kernel_rfl) (by kernel_rfl) (fun _ _ _ h => h) (Or.inl ⟨by rfl, ?hyc4⟩) (by assumption) ?restc4
          case hyc4 => intro w hSw; (try dsimp only at hSw); (obtain ⟨s0, s1⟩ := hSw); (first | (go_simp; done) | (go_simp; with_reducible rfl) | (with_reducible rfl))
          try simp only [Act.put, List.setIfInBounds_toArray, List.set_cons_zero, List.set_cons_succ]
          refine wpAnyH_take (i := 5) (oi := { dst := some 11, op := Op.fieldAddr 209 (Operand.tmp 10) 0, type := 0, pos := "l03_codec.go:218", after := #[{ on := 4, ground := Ground.data }, { on := 2, ground := Ground.guard }], guard := some (2, false) }) (v := ?vc5) rfl (by kernel_rfl) (by kernel_rfl) (by kernel_rfl) (fun _ _ _ h => h) (Or.inl ⟨by rfl, ?hyc5⟩) (by assumption) ?restc5
          case hyc5 => intro w hSw; (try dsimp only at hSw); (obtain ⟨s0, s1⟩ := hSw); (first | (go_simp; done) | (go_simp; with_reducible rfl) | (with_reducible rfl))
          try simp only [Act.put, List.setIfInBounds_toArray, List.set_cons_zero, List.set_cons_succ]
          refine wpAnyH_take (i := 6) (oi := { dst := some 12, op := Op.load 9 (Operand.tmp 11), type := 9, pos := "l03_codec.go:218", after := #[{ on := 5, ground := Ground.data }, { on := 2, ground := Ground.guard }], guard := some (2, false) }) (v := ?vc6) rfl (by kernel_rfl) (by kernel_rfl) (by kernel_rfl) (fun _ _ _ h => h) (Or.inl ⟨by rfl, ?hyc6⟩) (by assumption) ?restc6
          case hyc6 => intro w hSw; (try dsimp only at hSw); (obtain ⟨s0, s1⟩ := hSw); (first | (go_simp; done) | (go_simp; with_reducible rfl) | (with_reducible rfl))
          try simp only [Act.put, List.setIfInBounds_toArray, List.set_cons_zero, List.set_cons_succ]
          refine wpAnyH_take (i := 7) (oi := { dst := some 13, op := Op.move (Operand.tmp 0), type := 205, pos := "l03_codec.go:218", after := #[{ on := 2, ground := Ground.guard }], guard := some (2, false) }) (v := ?vc7) rfl (by kernel_rfl) (by kernel_rfl) (by kernel_rfl) (fun _ _ _ h => h) (Or.inl ⟨by rfl, ?hyc7⟩) (by assumption) ?restc7
          case hyc7 => intro w hSw; (try dsimp only at hSw); (obtain ⟨s0, s1⟩ := hSw); (first | (go_simp; done) | (go_simp; with_reducible rfl) | (with_reducible rfl))
          try simp only [Act.put, List.setIfInBounds_toArray, List.set_cons_zero, List.set_cons_succ]
          refine wpAnyH_take (i := 8) (oi := { dst := some 14, op := Op.nilCheck (Operand.tmp 13), type := 0, pos := "l03_codec.go:218", after := #[{ on := 7, ground := Ground.data }, { on := 2, ground := Ground.guard }], guard := some (2, false) }) (v := ?vc8) rfl (by kernel_rfl) (by kernel_rfl) (by kernel_rfl) (fun _ _ _ h => h) (Or.inl ⟨by rfl, ?hyc8⟩) (by assumption) ?restc8
          case hyc8 => intro w hSw; (try dsimp only at hSw); (obtain ⟨s0, s1⟩ := hSw); (first | (go_simp; done) | (go_simp; with_reducible rfl) | (with_reducible rfl))
          try simp only [Act.put, List.setIfInBounds_toArray, List.set_cons_zero, List.set_cons_succ]
          refine wpAnyH_take (i := 9) (oi := { dst := some 15, op := Op.fieldAddr 209 (Operand.tmp 14) 1, type := 0, pos := "l03_codec.go:218", after := #[{ on := 8, ground := Ground.data }, { on := 2, ground := Ground.guard }], guard := some (2, false) }) (v := ?vc9) rfl (by kernel_rfl) (by kernel_rfl) (by kernel_rfl) (fun _ _ _ h => h) (Or.inl ⟨by rfl, ?hyc9⟩) (by assumption) ?restc9
          case hyc9 => intro w hSw; (try dsimp only at hSw); (obtain ⟨s0, s1⟩ := hSw); (first | (go_simp; done) | (go_simp; with_reducible rfl) | (with_reducible rfl))
          try simp only [Act.put, List.setIfInBounds_toArray, List.set_cons_zero, List.set_cons_succ]
          refine wpAnyH_take (i := 10) (oi := { dst := some 16, op := Op.load 3 (Operand.tmp 15), type := 3, pos := "l03_codec.go:218", after := #[{ on := 9, ground := Ground.data }, { on := 2, ground := Ground.guard }], guard := some (2, false) }) (v := ?vc10) rfl (by kernel_rfl) (by kernel_rfl) (by kernel_rfl) (fun _ _ _ h => h) (Or.inl ⟨by rfl, ?hyc10⟩) (by assumption) ?restc10
          case hyc10 => intro w hSw; (try dsimp only at hSw); (obtain ⟨s0, s1⟩ := hSw); (first | (go_simp; done) | (go_simp; with_reducible rfl) | (with_reducible rfl))
          try simp only [Act.put, List.setIfInBounds_toArray, List.set_cons_zero, List.set_cons_succ]
          refine wpAnyH_take (i := 11) (oi := { dst := some 17, op := Op.index 9 (Operand.tmp 12) (Operand.tmp 16), type := 5, pos := "l03_codec.go:218", after := #[{ on := 6, ground := Ground.data }, { on := 10, ground := Ground.data }, { on := 2, ground := Ground.guard }], guard := some (2, false) }) (v := ?vc11) rfl (by kernel_rfl) (by kernel_rfl) (by kernel_rfl) (fun _ _ _ h => h) (Or.inl ⟨by rfl, ?hyc11⟩) (by assumption) ?restc11
          case hyc11 => intro w hSw; (try dsimp only at hSw); (obtain ⟨s0, s1⟩ := hSw); (first | (go_simp; done) | (go_simp; with_reducible rfl) | (with_reducible rfl))
          try simp only [Act.put, List.setIfInBounds_toArray, List.set_cons_zero, List.set_cons_succ]
          refine wpAnyH_ready (rs := [12]) (by kernel_rfl) (by simp) ?_
          refine AllReadyH.cons (o := { dst := some 18, op := Op.call { callee := Callee.value (Operand.func 197), args := #[Operand.tmp 17], argTypes := #[5] }, type := 4, pos := "l03_codec.go:218", after := #[{ on := 11, ground := Ground.data }, { on := 2, ground := Ground.chain }, { on := 2, ground := Ground.guard }], guard := some (2, false) }) rfl (fun K hK => ?_) AllReadyH.nil
          go_simp
          refine (isDigit_b _ false hd _).mono ?_
          rintro e w2 ⟨rfl, rfl⟩
          go_wp2_with fail
          refine hK.out _ _ (⟨SC1.out.c0, SC1.out.c1⟩) (fun hHeld => ?_)
          clear hK K
          try simp only [Act.put, List.setIfInBounds_toArray, List.set_cons_zero, List.set_cons_succ]
          refine wpAnyH_take (i := 13) (oi := { dst := some 19, op := Op.unOp UnOp.not 4 (Operand.tmp 18), type := 4, pos := "l03_codec.go:218", after := #[{ on := 12, ground := Ground.data }, { on := 2, ground := Ground.guard }], guard := some (2, false) }) (v := ?vc13) rfl (by kernel_rfl) (by kernel_rfl) (by kernel_rfl) (fun _ _ _ h => h) (Or.inl ⟨by rfl, ?hyc13⟩) (by assumption) ?restc13
          case hyc13 => intro w hSw; (try dsimp only at hSw); (obtain ⟨s0, s1⟩ := hSw); (first | (go_simp; done) | (go_simp; with_reducible rfl) | (with_reducible rfl))
          try simp only [Act.put, List.setIfInBounds_toArray, List.set_cons_zero, List.set_cons_succ]
          refine wpAnyH_take (i := 14) (oi := { dst := some 20, op := Op.pick (Operand.tmp 8) (Operand.const (Value.bool true)) (Operand.tmp 19), type := 4, pos := "l03_codec.go:218", after := #[{ on := 2, ground := Ground.data }, { on := 13, ground := Ground.data }], guard := none }) (v := ?vc14) rfl (by kernel_rfl) (by kernel_rfl) (by kernel_rfl) (fun _ _ _ h => h) (Or.inl ⟨by rfl, ?hyc14⟩) (by assumption) ?restc14
          case hyc14 => intro w hSw; (try dsimp only at hSw); (obtain ⟨s0, s1⟩ := hSw); (first | (go_simp; done) | (go_simp; with_reducible rfl) | (with_reducible rfl))
          try simp only [Act.put, List.setIfInBounds_toArray, List.set_cons_zero, List.set_cons_succ]
          refine wpAnyH_done (by kernel_rfl) ?_ _
          refine NoPanic.normal ?_
          have b1 : Below B w w1 := hb.trans ((Below.refl _ _).drew.trans (hb1.mono (Nat.le_of_lt (Nat.lt_of_le_of_lt hB SC.out.lt))))
          go_wp2_with fail
          refine (fail_any B g p t _ x w1 SC1.out Hx.out hB).mono ?_
          rintro e w3 ⟨rfl, y, hy, hs3, hb3⟩
          have H3 := Lib.hid hs3; clear hs3
          have Hy := Lib.hid hy; clear hy
          have b3 := b1.trans hb3
          clear hb3 hb1 b1 SC SC1 HS hHeld
          go_wp2
          go_ret
          exact ⟨0, p, y, rfl, H3.out, Or.inr ⟨Hy.out, Hle.out, HN.out⟩, b3⟩
        · have hdd : 48 ≤ t[p].toNat ∧ t[p].toNat ≤ 57 := by simp [digB] at hd; omega
          have hv6 : v < 100000 := Nat.lt_of_lt_of_le HV.out.1 (Nat.le_trans (Nat.pow_le_pow_right (by omega) (show j ≤ 5 by omega)) (by omega))
          have HV2 := Lib.hid (show 10 * v + (t[p].toNat - 48) < 10 ^ (j + 1) ∧ 10 * v + (t[p].toNat - 48) = dvalK (R.take (j + 1)) ∧ ∀ b ∈ R.take (j + 1), isDigK b from by
            obtain ⟨h1, h2, h3⟩ := HV.out
            refine ⟨by rw [Nat.pow_succ]; omega, ?_, ?_⟩
            · rw [List.take_succ_eq_append_getElem hjl, dvalK_snoc, ← h2, hRj]
            · rw [List.take_succ_eq_append_getElem hjl]
              intro b hb
              rcases List.mem_append.1 hb with hb | hb
              · exact h3 b hb
              · simp at hb
                subst hb
                rw [← hRj]
                exact hdd)
          have Hle := Lib.hid (show p ≤ t.size by omega)
          have Hpj := Lib.hid hpj
          clear HV hRj hpj hsz
          go_wp2_with fail
          have SC := Lib.hid (HS.out.below (Below.refl _ wr).drew)
          refine wp_region_noPanic ?_
          refine wp_region_held_drew (S := (fun w' => w'.cell? ⟨g, 0, none⟩ = some (.string t) ∧ w'.cell? ⟨g, 1, none⟩ = some (.int .i64 (p : Int)))) (by kernel_rfl) (⟨SC.out.c0, SC.out.c1⟩) (fun hHeld => ?_)
          refine wpAnyH_take (i := 0) (oi := { dst := some 6, op := Op.move (Operand.tmp 0), type := 205, pos := "l03_codec.go:218", after := #[], guard := none }) (v := ?vd0) rfl (by kernel_rfl) (by kernel_rfl) (by kernel_rfl) (fun _ _ _ h => h) (Or.inl ⟨by rfl, ?hyd0⟩) (by assumption) ?restd0
          case hyd0 => intro w hSw; (try dsimp only at hSw); (obtain ⟨s0, s1⟩ := hSw); (first | (go_simp; done) | (go_simp; with_reducible rfl) | (with_reducible rfl))
          try simp only [Act.put, List.setIfInBounds_toArray, List.set_cons_zero, List.set_cons_succ]
          refine wpAnyH_ready (rs := [1]) (by kernel_rfl) (by simp) ?_
          refine AllReadyH.cons (o := { dst := some 7, op := Op.call { callee := Callee.value (Operand.func 154), args := #[Operand.tmp 6], argTypes := #[205] }, type := 4, pos := "l03_codec.go:218", after := #[{ on := 0, ground := Ground.data }], guard := none }) rfl (fun K hK => ?_) AllReadyH.nil
          go_simp
          refine (atEnd_b g p t x false wr.drew SC.out hs e0).mono ?_
          rintro e w1 ⟨rfl, hb1⟩
          have SC1 := Lib.hid (SC.out.below hb1)
          go_wp2_with fail
          refine hK.out _ _ (⟨SC1.out.c0, SC1.out.c1⟩) (fun hHeld => ?_)
          clear hK K
          try simp only [Act.put, List.setIfInBounds_toArray, List.set_cons_zero, List.set_cons_succ]
          refine wpAnyH_take (i := 2) (oi := { dst := some 8, op := Op.move (Operand.tmp 7), type := 4, pos := "l03_codec.go:218", after := #[{ on := 1, ground := Ground.data }, { on := 1, ground := Ground.chain }], guard := none }) (v := ?vd2) rfl (by kernel_rfl) (by kernel_rfl) (by kernel_rfl) (fun _ _ _ h => h) (Or.inl ⟨by rfl, ?hyd2⟩) (by assumption) ?restd2
          case hyd2 => intro w hSw; (try dsimp only at hSw); (obtain ⟨s0, s1⟩ := hSw); (first | (go_simp; done) | (go_simp; with_reducible rfl) | (with_reducible rfl))
          try simp only [Act.put, List.setIfInBounds_toArray, List.set_cons_zero, List.set_cons_succ]
          refine wpAnyH_take (i := 3) (oi := { dst := some 9, op := Op.move (Operand.tmp 0), type := 205, pos := "l03_codec.go:218", after := #[{ on := 2, ground := Ground.guard }], guard := some (2, false) }) (v := ?vd3) rfl (by kernel_rfl) (by kernel_rfl) (by kernel_rfl) (fun _ _ _ h => h) (Or.inl ⟨by rfl, ?hyd3⟩) (by assumption) ?restd3
          case hyd3 => intro w hSw; (try dsimp only at hSw); (obtain ⟨s0, s1⟩ := hSw); (first | (go_simp; done) | (go_simp; with_reducible rfl) | (with_reducible rfl))
          try simp only [Act.put, List.setIfInBounds_toArray, List.set_cons_zero, List.set_cons_succ]
          refine wpAnyH_take (i := 4) (oi := { dst := some 10, op := Op.nilCheck (Operand.tmp 9), type := 0, pos := "l03_codec.go:218", after := #[{ on := 3, ground := Ground.data }, { on := 2, ground := Ground.guard }], guard := some (2, false) }) (v := ?vd4) rfl (by kernel_rfl) (by kernel_rfl) (by kernel_rfl) (fun _ _ _ h => h) (Or.inl ⟨by rfl, ?hyd4⟩) (by assumption) ?restd4
          case hyd4 => intro w hSw; (try dsimp only at hSw); (obtain ⟨s0, s1⟩ := hSw); (first | (go_simp; done) | (go_simp; with_reducible rfl) | (with_reducible rfl))
          try simp only [Act.put, List.setIfInBounds_toArray, List.set_cons_zero, List.set_cons_succ]
          refine wpAnyH_take (i := 5) (oi := { dst := some 11, op := Op.fieldAddr 209 (Operand.tmp 10) 0, type := 0, pos := "l03_codec.go:218", after := #[{ on := 4, ground := Ground.data }, { on := 2, ground := Ground.guard }], guard := some (2, false) }) (v := ?vd5) rfl (by kernel_rfl) (by kernel_rfl) (by kernel_rfl) (fun _ _ _ h => h) (Or.inl ⟨by rfl, ?hyd5⟩) (by assumption) ?restd5
          case hyd5 => intro w hSw; (try dsimp only at hSw); (obtain ⟨s0, s1⟩ := hSw); (first | (go_simp; done) | (go_simp; with_reducible rfl) | (with_reducible rfl))
          try simp only [Act.put, List.setIfInBounds_toArray, List.set_cons_zero, List.set_cons_succ]
          refine wpAnyH_take (i := 6) (oi := { dst := some 12, op := Op.load 9 (Operand.tmp 11), type := 9, pos := "l03_codec.go:218", after := #[{ on := 5, ground := Ground.data }, { on := 2, ground := Ground.guard }], guard := some (2, false) }) (v := ?vd6) rfl (by kernel_rfl) (by kernel_rfl) (by kernel_rfl) (fun _ _ _ h => h) (Or.inl ⟨by rfl, ?hyd6⟩) (by assumption) ?restd6
          case hyd6 => intro w hSw; (try dsimp only at hSw); (obtain ⟨s0, s1⟩ := hSw); (first | (go_simp; done) | (go_simp; with_reducible rfl) | (with_reducible rfl))
          try simp only [Act.put, List.setIfInBounds_toArray, List.set_cons_zero, List.set_cons_succ]
          refine wpAnyH_take (i := 7) (oi := { dst := some 13, op := Op.move (Operand.tmp 0), type := 205, pos := "l03_codec.go:218", after := #[{ on := 2, ground := Ground.guard }], guard := some (2, false) }) (v := ?vd7) rfl (by kernel_rfl) (by kernel_rfl) (by kernel_rfl) (fun _ _ _ h => h) (Or.inl ⟨by rfl, ?hyd7⟩) (by assumption) ?restd7
          case hyd7 => intro w hSw; (try dsimp only at hSw); (obtain ⟨s0, s1⟩ := hSw); (first | (go_simp; done) | (go_simp; with_reducible rfl) | (with_reducible rfl))
          try simp only [Act.put, List.setIfInBounds_toArray, List.set_cons_zero, List.set_cons_succ]
          refine wpAnyH_take (i := 8) (oi := { dst := some 14, op := Op.nilCheck (Operand.tmp 13), type := 0, pos := "l03_codec.go:218", after := #[{ on := 7, ground := Ground.data }, { on := 2, ground := Ground.guard }], guard := some (2, false) }) (v := ?vd8) rfl (by kernel_rfl) (by kernel_rfl) (by kernel_rfl) (fun _ _ _ h => h) (Or.inl ⟨by rfl, ?hyd8⟩) (by assumption) ?restd8
          case hyd8 => intro w hSw; (try dsimp only at hSw); (obtain ⟨s0, s1⟩ := hSw); (first | (go_simp; done) | (go_simp; with_reducible rfl) | (with_reducible rfl))
          try simp only [Act.put, List.setIfInBounds_toArray, List.set_cons_zero, List.set_cons_succ]
          refine wpAnyH_take (i := 9) (oi := { dst := some 15, op := Op.fieldAddr 209 (Operand.tmp 14) 1, type := 0, pos := "l03_codec.go:218", after := #[{ on := 8, ground := Ground.data }, { on := 2, ground := Ground.guard }], guard := some (2, false) }) (v := ?vd9) rfl (by kernel_rfl) (by kernel_rfl) (by kernel_rfl) (fun _ _ _ h => h) (Or.inl ⟨by rfl, ?hyd9⟩) (by assumption) ?restd9
          case hyd9 => intro w hSw; (try dsimp only at hSw); (obtain ⟨s0, s1⟩ := hSw); (first | (go_simp; done) | (go_simp; with_reducible rfl) | (with_reducible rfl))
          try simp only [Act.put, List.setIfInBounds_toArray, List.set_cons_zero, List.set_cons_succ]
          refine wpAnyH_take (i := 10) (oi := { dst := some 16, op := Op.load 3 (Operand.tmp 15), type := 3, pos := "l03_codec.go:218", after := #[{ on := 9, ground := Ground.data }, { on := 2, ground := Ground.guard }], guard := some (2, false) }) (v := ?vd10) rfl (by kernel_rfl) (by kernel_rfl) (by kernel_rfl) (fun _ _ _ h => h) (Or.inl ⟨by rfl, ?hyd10⟩) (by assumption) ?restd10
          case hyd10 => intro w hSw; (try dsimp only at hSw); (obtain ⟨s0, s1⟩ := hSw); (first | (go_simp; done) | (go_simp; with_reducible rfl) | (with_reducible rfl))
          try simp only [Act.put, List.setIfInBounds_toArray, List.set_cons_zero, List.set_cons_succ]
          refine wpAnyH_take (i := 11) (oi := { dst := some 17, op := Op.index 9 (Operand.tmp 12) (Operand.tmp 16), type := 5, pos := "l03_codec.go:218", after := #[{ on := 6, ground := Ground.data }, { on := 10, ground := Ground.data }, { on := 2, ground := Ground.guard }], guard := some (2, false) }) (v := ?vd11) rfl (by kernel_rfl) (by kernel_rfl) (by kernel_rfl) (fun _ _ _ h => h) (Or.inl ⟨by rfl, ?hyd11⟩) (by assumption) ?restd11
          case hyd11 => intro w hSw; (try dsimp only at hSw); (obtain ⟨s0, s1⟩ := hSw); (first | (go_simp; done) | (go_simp; with_reducible rfl) | (with_reducible rfl))
          try simp only [Act.put, List.setIfInBounds_toArray, List.set_cons_zero, List.set_cons_succ]
          refine wpAnyH_ready (rs := [12]) (by kernel_rfl) (by simp) ?_
          refine AllReadyH.cons (o := { dst := some 18, op := Op.call { callee := Callee.value (Operand.func 197), args := #[Operand.tmp 17], argTypes := #[5] }, type := 4, pos := "l03_codec.go:218", after := #[{ on := 11, ground := Ground.data }, { on := 2, ground := Ground.chain }, { on := 2, ground := Ground.guard }], guard := some (2, false) }) rfl (fun K hK => ?_) AllReadyH.nil
          go_simp
          refine (isDigit_b _ true hd _).mono ?_
          rintro e w2 ⟨rfl, rfl⟩
          go_wp2_with fail
          refine hK.out _ _ (⟨SC1.out.c0, SC1.out.c1⟩) (fun hHeld => ?_)
          clear hK K
          try simp only [Act.put, List.setIfInBounds_toArray, List.set_cons_zero, List.set_cons_succ]
          refine wpAnyH_take (i := 13) (oi := { dst := some 19, op := Op.unOp UnOp.not 4 (Operand.tmp 18), type := 4, pos := "l03_codec.go:218", after := #[{ on := 12, ground := Ground.data }, { on := 2, ground := Ground.guard }], guard := some (2, false) }) (v := ?vd13) rfl (by kernel_rfl) (by kernel_rfl) (by kernel_rfl) (fun _ _ _ h => h) (Or.inl ⟨by rfl, ?hyd13⟩) (by assumption) ?restd13
          case hyd13 => intro w hSw; (try dsimp only at hSw); (obtain ⟨s0, s1⟩ := hSw); (first | (go_simp; done) | (go_simp; with_reducible rfl) | (with_reducible rfl))
          try simp only [Act.put, List.setIfInBounds_toArray, List.set_cons_zero, List.set_cons_succ]
          refine wpAnyH_take (i := 14) (oi := { dst := some 20, op := Op.pick (Operand.tmp 8) (Operand.const (Value.bool true)) (Operand.tmp 19), type := 4, pos := "l03_codec.go:218", after := #[{ on := 2, ground := Ground.data }, { on := 13, ground := Ground.data }], guard := none }) (v := ?vd14) rfl (by kernel_rfl) (by kernel_rfl) (by kernel_rfl) (fun _ _ _ h => h) (Or.inl ⟨by rfl, ?hyd14⟩) (by assumption) ?restd14
          case hyd14 => intro w hSw; (try dsimp only at hSw); (obtain ⟨s0, s1⟩ := hSw); (first | (go_simp; done) | (go_simp; with_reducible rfl) | (with_reducible rfl))
          try simp only [Act.put, List.setIfInBounds_toArray, List.set_cons_zero, List.set_cons_succ]
          refine wpAnyH_done (by kernel_rfl) ?_ _
          refine NoPanic.normal ?_
          have b1 : Below B w w1 := hb.trans ((Below.refl _ _).drew.trans (hb1.mono (Nat.le_of_lt (Nat.lt_of_le_of_lt hB SC.out.lt))))
          have s1 := SC1.out
          obtain ⟨c0, c1, c2, fz, hlt1⟩ := s1
          have f1 := fz 1
          clear hb1 SC HS hHeld fz c2
          have w1' : IntKind.u8.wrap ((t[p].toNat : Int) - 48) = (t[p].toNat : Int) - 48 := by rw [IntKind.wrap_u8]; omega
          have w2' : IntKind.i64.wrap ((t[p].toNat : Int) - 48) = (t[p].toNat : Int) - 48 := by rw [IntKind.wrap_i64]; omega
          have w3' : IntKind.i64.wrap (10 * (v : Int)) = 10 * (v : Int) := by rw [IntKind.wrap_i64]; omega
          have w4' : IntKind.i64.wrap (10 * (v : Int) + ((t[p].toNat : Int) - 48)) = 10 * (v : Int) + ((t[p].toNat : Int) - 48) := by rw [IntKind.wrap_i64]; omega
          have w5' : IntKind.i64.wrap ((p : Int) + 1) = ((p + 1 : Nat) : Int) := by rw [IntKind.wrap_i64]; omega
          have Ec := Lib.hid (show (10 * (v : Int) + ((t[p].toNat : Int) - 48)) = ((10 * v + (t[p].toNat - 48) : Nat) : Int) by omega)
          go_wp2_with fail
          refine wp_region_noPanic ?_
          refine wp_region_held_drew (S := (fun w' => w'.cell? ⟨g, 0, none⟩ = some (.string t) ∧ w'.cell? ⟨g, 1, none⟩ = some (.int .i64 (p : Int)))) (by kernel_rfl) (⟨c0, c1⟩) (fun hHeld => ?_)
          refine wpAnyH_take (i := 0) (oi := { dst := some 23, op := Op.move (Operand.tmp 3), type := 3, pos := "l03_codec.go:222", after := #[], guard := none }) (v := ?ve0) rfl (by kernel_rfl) (by kernel_rfl) (by kernel_rfl) (fun _ _ _ h => h) (Or.inl ⟨by rfl, ?hye0⟩) (by assumption) ?reste0
          case hye0 => intro w hSw; (try dsimp only at hSw); (obtain ⟨s0, s1⟩ := hSw); (first | (go_simp; done) | (go_simp; with_reducible rfl) | (with_reducible rfl))
          try simp only [Act.put, List.setIfInBounds_toArray, List.set_cons_zero, List.set_cons_succ]
          refine wpAnyH_take (i := 1) (oi := { dst := some 24, op := Op.binOp BinOp.mul 3 (Operand.const (Value.int IntKind.i64 10)) (Operand.tmp 23) 3, type := 3, pos := "l03_codec.go:222", after := #[{ on := 0, ground := Ground.data }], guard := none }) (v := ?ve1) rfl (by kernel_rfl) (by kernel_rfl) (by kernel_rfl) (fun _ _ _ h => h) (Or.inl ⟨by rfl, ?hye1⟩) (by assumption) ?reste1
          case hye1 => intro w hSw; (try dsimp only at hSw); (obtain ⟨s0, s1⟩ := hSw); (first | (go_simp; done) | (go_simp; with_reducible rfl) | (with_reducible rfl))
          try simp only [Act.put, List.setIfInBounds_toArray, List.set_cons_zero, List.set_cons_succ]
          refine wpAnyH_take (i := 2) (oi := { dst := some 25, op := Op.move (Operand.tmp 0), type := 205, pos := "l03_codec.go:222", after := #[], guard := none }) (v := ?ve2) rfl (by kernel_rfl) (by kernel_rfl) (by kernel_rfl) (fun _ _ _ h => h) (Or.inl ⟨by rfl, ?hye2⟩) (by assumption) ?reste2
          case hye2 => intro w hSw; (try dsimp only at hSw); (obtain ⟨s0, s1⟩ := hSw); (first | (go_simp; done) | (go_simp; with_reducible rfl) | (with_reducible rfl))
          try simp only [Act.put, List.setIfInBounds_toArray, List.set_cons_zero, List.set_cons_succ]
          refine wpAnyH_take (i := 3) (oi := { dst := some 26, op := Op.nilCheck (Operand.tmp 25), type := 0, pos := "l03_codec.go:222", after := #[{ on := 2, ground := Ground.data }], guard := none }) (v := ?ve3) rfl (by kernel_rfl) (by kernel_rfl) (by kernel_rfl) (fun _ _ _ h => h) (Or.inl ⟨by rfl, ?hye3⟩) (by assumption) ?reste3
          case hye3 => intro w hSw; (try dsimp only at hSw); (obtain ⟨s0, s1⟩ := hSw); (first | (go_simp; done) | (go_simp; with_reducible rfl) | (with_reducible rfl))
          try simp only [Act.put, List.setIfInBounds_toArray, List.set_cons_zero, List.set_cons_succ]
          refine wpAnyH_take (i := 4) (oi := { dst := some 27, op := Op.fieldAddr 209 (Operand.tmp 26) 0, type := 0, pos := "l03_codec.go:222", after := #[{ on := 3, ground := Ground.data }], guard := none }) (v := ?ve4) rfl (by kernel_rfl) (by kernel_rfl) (by kernel_rfl) (fun _ _ _ h => h) (Or.inl ⟨by rfl, ?hye4⟩) (by assumption) ?reste4
          case hye4 => intro w hSw; (try dsimp only at hSw); (obtain ⟨s0, s1⟩ := hSw); (first | (go_simp; done) | (go_simp; with_reducible rfl) | (with_reducible rfl))
          try simp only [Act.put, List.setIfInBounds_toArray, List.set_cons_zero, List.set_cons_succ]
          refine wpAnyH_take (i := 5) (oi := { dst := some 28, op := Op.load 9 (Operand.tmp 27), type := 9, pos := "l03_codec.go:222", after := #[{ on := 4, ground := Ground.data }], guard := none }) (v := ?ve5) rfl (by kernel_rfl) (by kernel_rfl) (by kernel_rfl) (fun _ _ _ h => h) (Or.inl ⟨by rfl, ?hye5⟩) (by assumption) ?reste5
          case hye5 => intro w hSw; (try dsimp only at hSw); (obtain ⟨s0, s1⟩ := hSw); (first | (go_simp; done) | (go_simp; with_reducible rfl) | (with_reducible rfl))
          try simp only [Act.put, List.setIfInBounds_toArray, List.set_cons_zero, List.set_cons_succ]
          refine wpAnyH_take (i := 6) (oi := { dst := some 29, op := Op.move (Operand.tmp 0), type := 205, pos := "l03_codec.go:222", after := #[], guard := none }) (v := ?ve6) rfl (by kernel_rfl) (by kernel_rfl) (by kernel_rfl) (fun _ _ _ h => h) (Or.inl ⟨by rfl, ?hye6⟩) (by assumption) ?reste6
          case hye6 => intro w hSw; (try dsimp only at hSw); (obtain ⟨s0, s1⟩ := hSw); (first | (go_simp; done) | (go_simp; with_reducible rfl) | (with_reducible rfl))
          try simp only [Act.put, List.setIfInBounds_toArray, List.set_cons_zero, List.set_cons_succ]
          refine wpAnyH_take (i := 7) (oi := { dst := some 30, op := Op.nilCheck (Operand.tmp 29), type := 0, pos := "l03_codec.go:222", after := #[{ on := 6, ground := Ground.data }], guard := none }) (v := ?ve7) rfl (by kernel_rfl) (by kernel_rfl) (by kernel_rfl) (fun _ _ _ h => h) (Or.inl ⟨by rfl, ?hye7⟩) (by assumption) ?reste7
          case hye7 => intro w hSw; (try dsimp only at hSw); (obtain ⟨s0, s1⟩ := hSw); (first | (go_simp; done) | (go_simp; with_reducible rfl) | (with_reducible rfl))
          try simp only [Act.put, List.setIfInBounds_toArray, List.set_cons_zero, List.set_cons_succ]
          refine wpAnyH_take (i := 8) (oi := { dst := some 31, op := Op.fieldAddr 209 (Operand.tmp 30) 1, type := 0, pos := "l03_codec.go:222", after := #[{ on := 7, ground := Ground.data }], guard := none }) (v := ?ve8) rfl (by kernel_rfl) (by kernel_rfl) (by kernel_rfl) (fun _ _ _ h => h) (Or.inl ⟨by rfl, ?hye8⟩) (by assumption) ?reste8
          case hye8 => intro w hSw; (try dsimp only at hSw); (obtain ⟨s0, s1⟩ := hSw); (first | (go_simp; done) | (go_simp; with_reducible rfl) | (with_reducible rfl))
          try simp only [Act.put, List.setIfInBounds_toArray, List.set_cons_zero, List.set_cons_succ]
          refine wpAnyH_take (i := 9) (oi := { dst := some 32, op := Op.load 3 (Operand.tmp 31), type := 3, pos := "l03_codec.go:222", after := #[{ on := 8, ground := Ground.data }], guard := none }) (v := ?ve9) rfl (by kernel_rfl) (by kernel_rfl) (by kernel_rfl) (fun _ _ _ h => h) (Or.inl ⟨by rfl, ?hye9⟩) (by assumption) ?reste9
          case hye9 => intro w hSw; (try dsimp only at hSw); (obtain ⟨s0, s1⟩ := hSw); (first | (go_simp; done) | (go_simp; with_reducible rfl) | (with_reducible rfl))
          try simp only [Act.put, List.setIfInBounds_toArray, List.set_cons_zero, List.set_cons_succ]
          refine wpAnyH_take (i := 10) (oi := { dst := some 33, op := Op.index 9 (Operand.tmp 28) (Operand.tmp 32), type := 5, pos := "l03_codec.go:222", after := #[{ on := 5, ground := Ground.data }, { on := 9, ground := Ground.data }], guard := none }) (v := ?ve10) rfl (by kernel_rfl) (by kernel_rfl) (by kernel_rfl) (fun _ _ _ h => h) (Or.inl ⟨by rfl, ?hye10⟩) (by assumption) ?reste10
          case hye10 => intro w hSw; (try dsimp only at hSw); (obtain ⟨s0, s1⟩ := hSw); (first | (go_simp; done) | (go_simp; with_reducible rfl) | (with_reducible rfl))
          try simp only [Act.put, List.setIfInBounds_toArray, List.set_cons_zero, List.set_cons_succ]
          refine wpAnyH_take (i := 11) (oi := { dst := some 34, op := Op.binOp BinOp.sub 5 (Operand.tmp 33) (Operand.const (Value.int IntKind.u8 48)) 5, type := 5, pos := "l03_codec.go:222", after := #[{ on := 10, ground := Ground.data }], guard := none }) (v := ?ve11) rfl (by kernel_rfl) (by kernel_rfl) (by kernel_rfl) (fun _ _ _ h => h) (Or.inl ⟨by rfl, ?hye11⟩) (by assumption) ?reste11
          case hye11 => intro w hSw; (try dsimp only at hSw); (obtain ⟨s0, s1⟩ := hSw); (first | (go_simp; done) | (go_simp; with_reducible rfl) | (with_reducible rfl))
          try simp only [Act.put, List.setIfInBounds_toArray, List.set_cons_zero, List.set_cons_succ]
          refine wpAnyH_take (i := 12) (oi := { dst := some 35, op := Op.convert 5 3 (Operand.tmp 34), type := 3, pos := "l03_codec.go:222", after := #[{ on := 11, ground := Ground.data }], guard := none }) (v := ?ve12) rfl (by kernel_rfl) (by kernel_rfl) (by kernel_rfl) (fun _ _ _ h => h) (Or.inl ⟨by rfl, ?hye12⟩) (by assumption) ?reste12
          case hye12 => intro w hSw; (try dsimp only at hSw); (obtain ⟨s0, s1⟩ := hSw); (first | (go_simp; done) | (go_simp; with_reducible rfl) | (with_reducible rfl))
          try simp only [Act.put, List.setIfInBounds_toArray, List.set_cons_zero, List.set_cons_succ]
          refine wpAnyH_take (i := 13) (oi := { dst := some 36, op := Op.binOp BinOp.add 3 (Operand.tmp 24) (Operand.tmp 35) 3, type := 3, pos := "l03_codec.go:222", after := #[{ on := 1, ground := Ground.data }, { on := 12, ground := Ground.data }], guard := none }) (v := ?ve13) rfl (by kernel_rfl) (by kernel_rfl) (by kernel_rfl) (fun _ _ _ h => h) (Or.inl ⟨by rfl, ?hye13⟩) (by assumption) ?reste13
          case hye13 => intro w hSw; (try dsimp only at hSw); (obtain ⟨s0, s1⟩ := hSw); (first | (go_simp; done) | (go_simp; with_reducible rfl) | (with_reducible rfl))
          try simp only [Act.put, List.setIfInBounds_toArray, List.set_cons_zero, List.set_cons_succ]
          refine wpAnyH_take (i := 14) (oi := { dst := some 3, op := Op.assign (Operand.tmp 36), type := 3, pos := "l03_codec.go:222", after := #[{ on := 13, ground := Ground.data }, { on := 0, ground := Ground.phase }, { on := 1, ground := Ground.phase }, { on := 2, ground := Ground.phase }, { on := 3, ground := Ground.phase }, { on := 4, ground := Ground.phase }, { on := 5, ground := Ground.phase }, { on := 6, ground := Ground.phase }, { on := 7, ground := Ground.phase }, { on := 8, ground := Ground.phase }, { on := 9, ground := Ground.phase }, { on := 10, ground := Ground.phase }, { on := 11, ground := Ground.phase }, { on := 12, ground := Ground.phase }, { on := 13, ground := Ground.phase }], guard := none }) (v := ?ve14) rfl (by kernel_rfl) (by kernel_rfl) (by kernel_rfl) (fun _ _ _ h => h) (Or.inl ⟨by rfl, ?hye14⟩) (by assumption) ?reste14
          case hye14 => intro w hSw; (try dsimp only at hSw); (obtain ⟨s0, s1⟩ := hSw); (first | (go_simp; done) | (go_simp; with_reducible rfl) | (with_reducible rfl))
          try simp only [Act.put, List.setIfInBounds_toArray, List.set_cons_zero, List.set_cons_succ]
          refine wpAnyH_done (by kernel_rfl) ?_ _
          refine NoPanic.normal ?_
          have b2 : Below B w w1.drew := b1.drew
          have S2 := SC1.out.below (Below.refl _ w1).drew
          rw [Ec.out]
          clear hHeld c0 c1 f1 b1 SC1 hlt1 w1' w2' w3' w4' Ec
          generalize w1.drew = w2 at *
          have HS3 := Lib.hid (S2.go (p + 1))
          have Hb3 := Lib.hid (bset' b2 (p := ⟨g, 1, none⟩) hB (.int .i64 ((p + 1 : Nat) : Int)))
          obtain ⟨c0, c1, c2, fz, hlt2⟩ := S2
          have f1 := fz 1
          clear fz c2 c0 b2
          generalize 10 * v + (t[p].toNat - 48) = N at *
          go_wp2
          refine ⟨⟨j + 1, N, p + 1, ?_, by omega, by go_num, rfl, ?_, by omega, HV2, ?_⟩, by simp [intOf]; omega⟩
          · have := Hpj.out
            omega
          · exact HS3
          · exact Hb3.out
    · obtain rfl : j = 6 := by omega
      have HK := Lib.hid (show Keyed t R a x v (a + 6) x from by
        obtain ⟨h1, h2, h3⟩ := HV.out
        obtain ⟨h4, h5⟩ := six_of (R.take 6) (by simp; omega) h3
        exact Or.inl ⟨rfl, rfl, by rw [h2]; exact h5, R.drop 6, by rw [h2, ← h4, List.take_append_drop]⟩)
      clear HV
      go_wp2
      go_ret
      subst hpj
      exact ⟨v, a + 6, x, rfl, HS.out, HK.out, hb⟩

end Go.Proofs.YtpackpocnonpiaaGreatDoor

/- Contracts of the model's l03Key and DataKey. No conditions. -/
namespace Go.Proofs.YtpackpocnonpiaaGreatDoor
open Go.ChangeShapes Go.WideShapes Go.ChangeAt Go.RowKit
set_option linter.unusedVariables false
set_option linter.unusedSimpArgs false

set_option maxRecDepth 100000 in
set_option maxHeartbeats 4000000 in
theorem l03Key_0 (n m : Nat) (hn : n ≤ 999999) (hm : m ≤ 999999) (w : World) : Calls Tryz.prog 118 #[.int .i64 0, .int .i64 n, .int .i64 m] w fun e w' => e = .returned (.string (keyT 0 n m)) ∧ Below w.heap.size w w' := by
  have Wn := Lib.hid (wide_any n hn)
  have Wm := Lib.hid (wide_any m hm)
  have HC := Lib.hid (fun (W w1 : World) => six_new W w1 0 ⟨#[114, 97, 119]⟩ ⟨#[114, 97, 119]⟩ ⟨#[116, 49]⟩ ⟨#[116, 50]⟩ 9 rfl)
  have HD := Lib.hid (fun (W w1 : World) => six_newD W w1 0 ⟨#[114, 97, 119]⟩ ⟨#[114, 97, 119]⟩ ⟨#[116, 49]⟩ ⟨#[116, 50]⟩ 9 rfl)
  have E := Lib.hid (show keyT 0 n m = ⟨#[114, 97, 119]⟩ ++ ⟨#[47]⟩ ++ sixT n ++ ⟨#[45]⟩ ++ sixT m from by unfold keyT pathT; rfl)
  have s1 := sixT_size n
  have s2 := sixT_size m
  generalize sixT n = N at *
  generalize sixT m = M at *
  go_enter Tryz.func118, Tryz.ntmps118
  go_wp2_with fail
  have K := Lib.hid ((Below.refl w.heap.size w).drew)
  go_region_with (go_at_call 171; (first | (with_reducible (refine (Wn.out _).mono ?_)) | (with_reducible (refine (Wm.out _).mono ?_))); rintro e w7 ⟨rfl, hb7⟩; (first | (with_reducible (replace K := Lib.hid (six_bD _ _ _ hb7))) | (with_reducible (replace K := Lib.hid (bnext K.out hb7))) | (with_reducible (replace K := Lib.hid (bnext (bal K.out _) hb7)))); (first | (with_reducible (have hc := HD.out _ _ hb7; have hlt := six_ltD _ _ _ hb7)) | (with_reducible (have hc := HC.out _ _ hb7; have hlt := six_lt _ _ _ hb7)) | (with_reducible (have hc' := (hb7.cell hlt).trans hc)) | skip); clear hb7)
  all_goals clear HC HD Wn Wm
  all_goals go_wp2
  all_goals go_ret
  all_goals refine ⟨by rw [E.out]; rfl, ?_⟩
  all_goals first | exact K.out | exact bal K.out _

set_option maxRecDepth 100000 in
set_option maxHeartbeats 4000000 in
theorem l03Key_1 (n m : Nat) (hn : n ≤ 999999) (hm : m ≤ 999999) (w : World) : Calls Tryz.prog 118 #[.int .i64 1, .int .i64 n, .int .i64 m] w fun e w' => e = .returned (.string (keyT 1 n m)) ∧ Below w.heap.size w w' := by
  have Wn := Lib.hid (wide_any n hn)
  have Wm := Lib.hid (wide_any m hm)
  have HC := Lib.hid (fun (W w1 : World) => six_new W w1 1 ⟨#[116, 49]⟩ ⟨#[114, 97, 119]⟩ ⟨#[116, 49]⟩ ⟨#[116, 50]⟩ 9 rfl)
  have HD := Lib.hid (fun (W w1 : World) => six_newD W w1 1 ⟨#[116, 49]⟩ ⟨#[114, 97, 119]⟩ ⟨#[116, 49]⟩ ⟨#[116, 50]⟩ 9 rfl)
  have E := Lib.hid (show keyT 1 n m = ⟨#[116, 49]⟩ ++ ⟨#[47]⟩ ++ sixT n ++ ⟨#[45]⟩ ++ sixT m from by unfold keyT pathT; rfl)
  have s1 := sixT_size n
  have s2 := sixT_size m
  generalize sixT n = N at *
  generalize sixT m = M at *
  go_enter Tryz.func118, Tryz.ntmps118
  go_wp2_with fail
  have K := Lib.hid ((Below.refl w.heap.size w).drew)
  go_region_with (go_at_call 171; (first | (with_reducible (refine (Wn.out _).mono ?_)) | (with_reducible (refine (Wm.out _).mono ?_))); rintro e w7 ⟨rfl, hb7⟩; (first | (with_reducible (replace K := Lib.hid (six_bD _ _ _ hb7))) | (with_reducible (replace K := Lib.hid (bnext K.out hb7))) | (with_reducible (replace K := Lib.hid (bnext (bal K.out _) hb7)))); (first | (with_reducible (have hc := HD.out _ _ hb7; have hlt := six_ltD _ _ _ hb7)) | (with_reducible (have hc := HC.out _ _ hb7; have hlt := six_lt _ _ _ hb7)) | (with_reducible (have hc' := (hb7.cell hlt).trans hc)) | skip); clear hb7)
  all_goals clear HC HD Wn Wm
  all_goals go_wp2
  all_goals go_ret
  all_goals refine ⟨by rw [E.out]; rfl, ?_⟩
  all_goals first | exact K.out | exact bal K.out _

set_option maxRecDepth 100000 in
set_option maxHeartbeats 4000000 in
theorem l03Key_2 (n m : Nat) (hn : n ≤ 999999) (hm : m ≤ 999999) (w : World) : Calls Tryz.prog 118 #[.int .i64 2, .int .i64 n, .int .i64 m] w fun e w' => e = .returned (.string (keyT 2 n m)) ∧ Below w.heap.size w w' := by
  have Wn := Lib.hid (wide_any n hn)
  have Wm := Lib.hid (wide_any m hm)
  have HC := Lib.hid (fun (W w1 : World) => six_new W w1 2 ⟨#[116, 50]⟩ ⟨#[114, 97, 119]⟩ ⟨#[116, 49]⟩ ⟨#[116, 50]⟩ 9 rfl)
  have HD := Lib.hid (fun (W w1 : World) => six_newD W w1 2 ⟨#[116, 50]⟩ ⟨#[114, 97, 119]⟩ ⟨#[116, 49]⟩ ⟨#[116, 50]⟩ 9 rfl)
  have E := Lib.hid (show keyT 2 n m = ⟨#[116, 50]⟩ ++ ⟨#[47]⟩ ++ sixT n ++ ⟨#[45]⟩ ++ sixT m from by unfold keyT pathT; rfl)
  have s1 := sixT_size n
  have s2 := sixT_size m
  generalize sixT n = N at *
  generalize sixT m = M at *
  go_enter Tryz.func118, Tryz.ntmps118
  go_wp2_with fail
  have K := Lib.hid ((Below.refl w.heap.size w).drew)
  go_region_with (go_at_call 171; (first | (with_reducible (refine (Wn.out _).mono ?_)) | (with_reducible (refine (Wm.out _).mono ?_))); rintro e w7 ⟨rfl, hb7⟩; (first | (with_reducible (replace K := Lib.hid (six_bD _ _ _ hb7))) | (with_reducible (replace K := Lib.hid (bnext K.out hb7))) | (with_reducible (replace K := Lib.hid (bnext (bal K.out _) hb7)))); (first | (with_reducible (have hc := HD.out _ _ hb7; have hlt := six_ltD _ _ _ hb7)) | (with_reducible (have hc := HC.out _ _ hb7; have hlt := six_lt _ _ _ hb7)) | (with_reducible (have hc' := (hb7.cell hlt).trans hc)) | skip); clear hb7)
  all_goals clear HC HD Wn Wm
  all_goals go_wp2
  all_goals go_ret
  all_goals refine ⟨by rw [E.out]; rfl, ?_⟩
  all_goals first | exact K.out | exact bal K.out _

theorem l03Key_any (t n m : Int) (h : KeyNP t n m) (w : World) : Calls Tryz.prog 118 #[.int .i64 t, .int .i64 n, .int .i64 m] w fun e w' => e = .returned (.string (keyT t.toNat n.toNat m.toNat)) ∧ Below w.heap.size w w' := by
  obtain ⟨h1, h2, h3, h4, h5, h6⟩ := h
  obtain ⟨a, rfl⟩ := Int.eq_ofNat_of_zero_le h3
  obtain ⟨b, rfl⟩ := Int.eq_ofNat_of_zero_le h5
  rcases (show t = 0 ∨ t = 1 ∨ t = 2 by omega) with rfl | rfl | rfl
  · exact l03Key_0 a b (by omega) (by omega) w
  · exact l03Key_1 a b (by omega) (by omega) w
  · exact l03Key_2 a b (by omega) (by omega) w

/-- what DataKey answers -/
def KeyOf (t n m : Int) (s : ByteArray) (cd : Int) : Prop := (KeyNP t n m ∧ s = keyT t.toNat n.toNat m.toNat ∧ cd = 0) ∨ (¬ KeyNP t n m ∧ s = ⟨#[]⟩ ∧ cd = 4)

end Go.Proofs.YtpackpocnonpiaaGreatDoor

/- Contract of impl.DataKey. Conditions: the library's table of powers of ten and the program's table of paths are as their texts lay them. -/
namespace Go.Proofs.YtpackpocnonpiaaGreatDoor
open Go.ChangeShapes Go.WideShapes Go.ChangeAt Go.RowKit
set_option linter.unusedVariables false
set_option linter.unusedSimpArgs false

/-- the program's paths of tiers are as they were laid -/
def Paths (w : World) : Prop := ∀ t, t < 3 → w.cell? ⟨1, t, none⟩ = some (.string (pathT t))

theorem Paths.below {w w' : World} {B : Nat} (h : Paths w) (hb : Below B w w') (hB : 1 < B) : Paths w' := fun t ht => (hb.cell (p := ⟨1, t, none⟩) hB).trans (h t ht)

theorem within_b (n lo hi : Int) (b : Bool) (h : inB n lo hi = b) (w : World) : Calls Tryz.prog 87 #[.int .i64 n, .int .i64 lo, .int .i64 hi] w fun e w' => e = .returned (.bool b) ∧ w = w' :=
  (within_any n lo hi w).mono fun e w' ⟨he, hB⟩ => ⟨by rw [he, h], hB⟩

end Go.Proofs.YtpackpocnonpiaaGreatDoor

/- Contracts of the model's l03ToKey and ReadDataKey: just of a data key the tier and the numbers. Conditions: none beside a text's length. -/
namespace Go.Proofs.YtpackpocnonpiaaGreatDoor
open Go.ChangeShapes Go.WideShapes Go.ChangeAt Go.RowKit
set_option linter.unusedVariables false
set_option linter.unusedSimpArgs false

/-- a text is the data key of a tier and two numbers -/
def IsKey (key : ByteArray) (t n m : Int) : Prop := KeyNP t n m ∧ key = keyT t.toNat n.toNat m.toNat

/-- what is read of a key -/
def KeyRead (key : ByteArray) (t n m : Int) (b : Bool) : Prop := (b = true ∧ IsKey key t n m) ∨ (b = false ∧ t = 0 ∧ n = 0 ∧ m = 0 ∧ ∀ t n m, ¬ IsKey key t n m)

def KeyEnd (key : ByteArray) (w : World) (e : Ending) (w' : World) : Prop := ∃ t n m b, e = .returned (.tuple #[.int .i64 t, .int .i64 n, .int .i64 m, .bool b]) ∧ KeyRead key t n m b ∧ Below w.heap.size w w'

theorem KeyEnd.no {key : ByteArray} {w w' : World} (h : ∀ t n m, ¬ IsKey key t n m) (hb : Below w.heap.size w w') : KeyEnd key w (.returned (.tuple #[.int .i64 0, .int .i64 0, .int .i64 0, .bool false])) w' := ⟨0, 0, 0, false, rfl, Or.inr ⟨rfl, rfl, rfl, rfl, h⟩, hb⟩

theorem KeyEnd.yes {key : ByteArray} {w w' : World} {t n m : Int} (h : IsKey key t n m) (hb : Below w.heap.size w w') : KeyEnd key w (.returned (.tuple #[.int .i64 t, .int .i64 n, .int .i64 m, .bool true])) w' := ⟨t, n, m, true, rfl, Or.inl ⟨rfl, h⟩, hb⟩

/-- what stands ahead of the slash -/
def headT (t : Nat) : ByteArray := match t with
  | 0 => ⟨#[114, 97, 119]⟩
  | 1 => ⟨#[116, 49]⟩
  | _ => ⟨#[116, 50]⟩

def tailT (n m : Nat) : ByteArray := sixT n ++ ⟨#[45]⟩ ++ sixT m

theorem not_slash {n : Nat} : (47 : UInt8) ∉ (sixT n).data.toList := by
  intro h
  obtain ⟨i, hi, e⟩ := List.mem_iff_getElem.1 h
  have h6 : i < 6 := by simpa [sixT] using hi
  have e2 : (sixT n)[i]'(by rw [sixT_size]; exact h6) = 47 := e
  have := sixT_at (m := n) h6
  rw [e2] at this
  have e3 : (47 : UInt8).toNat = 47 := rfl
  omega

theorem tail_slash {n m : Nat} : (47 : UInt8) ∉ (tailT n m).data.toList := by
  unfold tailT
  rw [ByteArray.data_append, ByteArray.data_append, Array.toList_append, Array.toList_append]
  intro h
  rcases List.mem_append.1 h with h | h
  · rcases List.mem_append.1 h with h | h
    · exact not_slash h
    · simp at h
  · exact not_slash h

theorem cut_key (t n m : Nat) : CutOf (keyT t n m) 47 [headT t] (tailT n m) := by
  refine ⟨?_, ?_, tail_slash⟩
  · unfold keyT tailT pathT headT flatC
    match t with
    | 0 => simp [ByteArray.data_append]
    | 1 => simp [ByteArray.data_append]
    | t + 2 => simp [ByteArray.data_append]
  · intro p hp
    simp at hp
    subst hp
    match t with
    | 0 => show (47 : UInt8) ∉ (⟨#[114, 97, 119]⟩ : ByteArray).data.toList; decide
    | 1 => show (47 : UInt8) ∉ (⟨#[116, 49]⟩ : ByteArray).data.toList; decide
    | t + 2 => show (47 : UInt8) ∉ (⟨#[116, 50]⟩ : ByteArray).data.toList; decide

theorem tail_size (n m : Nat) : (tailT n m).size = 13 := by
  unfold tailT
  rw [ByteArray.size_append, ByteArray.size_append, sixT_size, sixT_size]
  rfl

theorem tail_dash (n m : Nat) (h : 6 < (tailT n m).size) : (tailT n m)[6] = 45 := rfl

theorem tail_left (n m : Nat) : (tailT n m).extract 0 6 = sixT n := by
  apply ByteArray.ext
  simp [ByteArray.data_extract, ByteArray.data_append, sixT, tailT]

theorem tail_right (n m : Nat) : (tailT n m).extract 7 13 = sixT m := by
  apply ByteArray.ext
  simp [ByteArray.data_extract, ByteArray.data_append, sixT, tailT]

theorem key_facts {key : ByteArray} {t n m : Int} {ps : List ByteArray} {last : ByteArray} (h : IsKey key t n m) (hc : CutOf key 47 ps last) : ps = [headT t.toNat] ∧ last = tailT n.toNat m.toNat := by
  rw [h.2] at hc
  exact CutOf.one (t := key) hc (cut_key _ _ _)

def tierV (p : ByteArray) : Int := (if p.toList == [116, 49] then 1 else 0) + 2 * (if p.toList == [116, 50] then 1 else 0)

theorem tier_head {t : Int} (h0 : 0 ≤ t) (h2 : t ≤ 2) : tierV (headT t.toNat) = t := by
  rcases (show t = 0 ∨ t = 1 ∨ t = 2 by omega) with rfl | rfl | rfl <;> (unfold tierV headT; rw [ByteArray.toList_eq]; rfl)

theorem l01Bit_n (b : Bool) (n : Int) (h : n = if b then 1 else 0) (w : World) : Calls Tryz.prog 142 #[.bool b] w fun e w' => e = .returned (.int .i64 n) ∧ w = w' :=
  (l01Bit_any b w).mono fun e w' ⟨he, hw⟩ => ⟨by rw [he, h], hw⟩

set_option maxRecDepth 100000 in
set_option maxHeartbeats 1000000 in
theorem toKey_any (key : ByteArray) (w : World) (hk : key.size ≤ 1048576) : Calls Tryz.prog 79 #[.string key] w (KeyEnd key w) := by
  go_enter Tryz.func79, Tryz.ntmps79
  go_wp2_with fail
  refine (l00Cut_any key 47 w hk).mono ?_
  rintro e w1 ⟨A, k, ps, last, rfl, hO, hC, hb1⟩
  have HC := Lib.hid hC; clear hC
  have hfx := fun (t n m : Int) (h : IsKey key t n m) => key_facts h HC.out
  have HFX := Lib.hid hfx; clear hfx HC
  match ps with
  | [] =>
    have HX := Lib.hid (show ∀ t n m, ¬ IsKey key t n m from fun t n m h => by have := (HFX.out t n m h).1; cases this)
    clear HFX hO
    go_wp2
    exact bodyPost_ret (v := .tuple #[.int .i64 0, .int .i64 0, .int .i64 0, .bool false]) (by simp [results, Tryz.results79, go_sem]) rfl (KeyEnd.no HX.out hb1)
  | p :: q :: r =>
    have HX := Lib.hid (show ∀ t n m, ¬ IsKey key t n m from fun t n m h => by have := (HFX.out t n m h).1; simp at this)
    have d0 : (((p :: q :: r).length + 1 : Nat) : Int) ≠ 2 := by simp; omega
    have d1 : ((((p :: q :: r).length + 1 : Nat) : Int) != 2) = true := by simpa using d0
    generalize (p :: q :: r).length + 1 = N at *
    clear HFX hO
    go_wp2
    exact bodyPost_ret (v := .tuple #[.int .i64 0, .int .i64 0, .int .i64 0, .bool false]) (by simp [results, Tryz.results79, go_sem]) rfl (KeyEnd.no HX.out hb1)
  | [p] =>
    obtain ⟨hsl, _, _, _⟩ := OwnSl.sl (xs := [p] ++ [last]) hO (fun x => rfl)
    obtain ⟨b, o, rfl, hbb, hc0⟩ := Sl.at_ hsl (k := 0) (by simp)
    obtain ⟨b2, o2, e2, _, hc1⟩ := Sl.at_ hsl (k := 1) (by simp)
    injection e2 with e2
    injection e2 with e2 e3
    subst e2 e3
    have q0 : w1.cell? ⟨b, o, none⟩ = some (.string p) := by simpa using hc0 0 (.string p) rfl
    have q1 : w1.cell? ⟨b, o + 1, none⟩ = some (.string last) := by simpa using hc1 0 (.string last) rfl
    clear hsl hc0 hc1 hO
    simp only [List.length_cons, List.length_nil] at *
    by_cases h13 : last.size = 13
    · by_cases h6 : last[6] = 45
      · have d6 : ((last[6].toNat : Int) != 45) = false := by rw [h6]; rfl
        have x0 : (last.extract 0 6).size = 6 := by rw [ByteArray.size_extract]; omega
        have x1 : (last.extract 7 13).size = 6 := by rw [ByteArray.size_extract]; omega
        have FL := Lib.hid (fixed_any (last.extract 0 6) x0)
        have FR := Lib.hid (fixed_any (last.extract 7 13) x1)
        have HT := Lib.hid (show tierV p = (if p.toList == [116, 49] then 1 else 0) + 2 * (if p.toList == [116, 50] then 1 else 0) from rfl)
        clear x0 x1 h6
        go_wp2_with fail
        obtain ⟨d1, hd1⟩ : ∃ d, d = (p.toList == [116, 49]) := ⟨_, rfl⟩
        obtain ⟨d2, hd2⟩ : ∃ d, d = (p.toList == [116, 50]) := ⟨_, rfl⟩
        have e1 := hd1.symm
        have e2 := hd2.symm
        obtain ⟨n1, hn1⟩ : ∃ n : Int, n = if d1 then 1 else 0 := ⟨_, rfl⟩
        obtain ⟨n2, hn2⟩ : ∃ n : Int, n = if d2 then 1 else 0 := ⟨_, rfl⟩
        have HT2 := HT.out
        rw [e1, e2, ← hn1, ← hn2] at HT2
        have b1' : 0 ≤ n1 ∧ n1 ≤ 1 := by rw [hn1]; cases d1 <;> decide
        have b2' : 0 ≤ n2 ∧ n2 ≤ 1 := by rw [hn2]; cases d2 <;> decide
        have N1 := Lib.hid hn1; have N2 := Lib.hid hn2
        have HT3 := Lib.hid HT2; clear HT HT2 hd1 hd2 hn1 hn2
        have wt : IntKind.i64.wrap (2 * n2) = 2 * n2 := by rw [IntKind.wrap_i64]; omega
        have wu : IntKind.i64.wrap (n1 + 2 * n2) = n1 + 2 * n2 := by rw [IntKind.wrap_i64]; omega
        refine wp_region_noPanic ?_
        refine wp_region_held_drew (S := (fun w' => w'.cell? ⟨b, o, none⟩ = some (.string p))) (by kernel_rfl) (q0) (fun hHeld => ?_)
        refine wpAnyH_take (i := 0) (oi := { dst := some 31, op := Op.move (Operand.tmp 6), type := 149, pos := "l03_codec.go:166", after := #[], guard := none }) (v := ?vb0) rfl (by kernel_rfl) (by kernel_rfl) (by kernel_rfl) (fun _ _ _ h => h) (Or.inl ⟨by rfl, ?hyb0⟩) (by assumption) ?restb0
        case hyb0 => intro w hSw; (try dsimp only at hSw); (first | (go_simp; done) | (go_simp; with_reducible rfl) | (with_reducible rfl))
        try simp only [Act.put, List.setIfInBounds_toArray, List.set_cons_zero, List.set_cons_succ]
        refine wpAnyH_take (i := 1) (oi := { dst := some 32, op := Op.indexAddr 149 (Operand.tmp 31) (Operand.const (Value.int IntKind.i64 0)), type := 0, pos := "l03_codec.go:166", after := #[{ on := 0, ground := Ground.data }], guard := none }) (v := ?vb1) rfl (by kernel_rfl) (by kernel_rfl) (by kernel_rfl) (fun _ _ _ h => h) (Or.inl ⟨by rfl, ?hyb1⟩) (by assumption) ?restb1
        case hyb1 => intro w hSw; (try dsimp only at hSw); (first | (go_simp; done) | (go_simp; with_reducible rfl) | (with_reducible rfl))
        try simp only [Act.put, List.setIfInBounds_toArray, List.set_cons_zero, List.set_cons_succ]
        refine wpAnyH_take (i := 2) (oi := { dst := some 33, op := Op.load 9 (Operand.tmp 32), type := 9, pos := "l03_codec.go:166", after := #[{ on := 1, ground := Ground.data }], guard := none }) (v := ?vb2) rfl (by kernel_rfl) (by kernel_rfl) (by kernel_rfl) (fun _ _ _ h => h) (Or.inl ⟨by rfl, ?hyb2⟩) (by assumption) ?restb2
        case hyb2 => intro w hSw; (try dsimp only at hSw); (first | (go_simp; done) | (go_simp; with_reducible rfl) | (with_reducible rfl))
        try simp only [Act.put, List.setIfInBounds_toArray, List.set_cons_zero, List.set_cons_succ]
        refine wpAnyH_take (i := 3) (oi := { dst := some 34, op := Op.binOp BinOp.eql 9 (Operand.tmp 33) (Operand.const (Value.string { data := #[116, 49] })) 9, type := 4, pos := "l03_codec.go:166", after := #[{ on := 2, ground := Ground.data }], guard := none }) (v := ?vb3) rfl (by kernel_rfl) (by kernel_rfl) (by kernel_rfl) (fun _ _ _ h => h) (Or.inl ⟨by rfl, ?hyb3⟩) (by assumption) ?restb3
        case hyb3 => intro w hSw; (try dsimp only at hSw); (first | (go_simp; done) | (go_simp; with_reducible rfl) | (with_reducible rfl))
        try simp only [Act.put, List.setIfInBounds_toArray, List.set_cons_zero, List.set_cons_succ]
        refine wpAnyH_take (i := 5) (oi := { dst := some 36, op := Op.move (Operand.tmp 6), type := 149, pos := "l03_codec.go:166", after := #[], guard := none }) (v := ?vb5) rfl (by kernel_rfl) (by kernel_rfl) (by kernel_rfl) (fun _ _ _ h => h) (Or.inl ⟨by rfl, ?hyb5⟩) (by assumption) ?restb5
        case hyb5 => intro w hSw; (try dsimp only at hSw); (first | (go_simp; done) | (go_simp; with_reducible rfl) | (with_reducible rfl))
        try simp only [Act.put, List.setIfInBounds_toArray, List.set_cons_zero, List.set_cons_succ]
        refine wpAnyH_take (i := 6) (oi := { dst := some 37, op := Op.indexAddr 149 (Operand.tmp 36) (Operand.const (Value.int IntKind.i64 0)), type := 0, pos := "l03_codec.go:166", after := #[{ on := 5, ground := Ground.data }], guard := none }) (v := ?vb6) rfl (by kernel_rfl) (by kernel_rfl) (by kernel_rfl) (fun _ _ _ h => h) (Or.inl ⟨by rfl, ?hyb6⟩) (by assumption) ?restb6
        case hyb6 => intro w hSw; (try dsimp only at hSw); (first | (go_simp; done) | (go_simp; with_reducible rfl) | (with_reducible rfl))
        try simp only [Act.put, List.setIfInBounds_toArray, List.set_cons_zero, List.set_cons_succ]
        refine wpAnyH_take (i := 7) (oi := { dst := some 38, op := Op.load 9 (Operand.tmp 37), type := 9, pos := "l03_codec.go:166", after := #[{ on := 6, ground := Ground.data }], guard := none }) (v := ?vb7) rfl (by kernel_rfl) (by kernel_rfl) (by kernel_rfl) (fun _ _ _ h => h) (Or.inl ⟨by rfl, ?hyb7⟩) (by assumption) ?restb7
        case hyb7 => intro w hSw; (try dsimp only at hSw); (first | (go_simp; done) | (go_simp; with_reducible rfl) | (with_reducible rfl))
        try simp only [Act.put, List.setIfInBounds_toArray, List.set_cons_zero, List.set_cons_succ]
        refine wpAnyH_take (i := 8) (oi := { dst := some 39, op := Op.binOp BinOp.eql 9 (Operand.tmp 38) (Operand.const (Value.string { data := #[116, 50] })) 9, type := 4, pos := "l03_codec.go:166", after := #[{ on := 7, ground := Ground.data }], guard := none }) (v := ?vb8) rfl (by kernel_rfl) (by kernel_rfl) (by kernel_rfl) (fun _ _ _ h => h) (Or.inl ⟨by rfl, ?hyb8⟩) (by assumption) ?restb8
        case hyb8 => intro w hSw; (try dsimp only at hSw); (first | (go_simp; done) | (go_simp; with_reducible rfl) | (with_reducible rfl))
        try simp only [Act.put, List.setIfInBounds_toArray, List.set_cons_zero, List.set_cons_succ]
        refine wpAnyH_ready (rs := [4]) (by kernel_rfl) (by simp) ?_
        refine AllReadyH.cons (o := { dst := some 35, op := Op.call { callee := Callee.value (Operand.func 142), args := #[Operand.tmp 34], argTypes := #[4] }, type := 3, pos := "l03_codec.go:166", after := #[{ on := 3, ground := Ground.data }], guard := none }) rfl (fun K hK => ?_) AllReadyH.nil
        go_simp
        refine (l01Bit_n d1 n1 N1.out _).mono ?_
        rintro e w9 ⟨rfl, rfl⟩
        go_wp2_with fail
        refine hK.out _ _ (q0) (fun hHeld => ?_)
        clear hK K
        try simp only [Act.put, List.setIfInBounds_toArray, List.set_cons_zero, List.set_cons_succ]
        refine wpAnyH_ready (rs := [9]) (by kernel_rfl) (by simp) ?_
        refine AllReadyH.cons (o := { dst := some 40, op := Op.call { callee := Callee.value (Operand.func 142), args := #[Operand.tmp 39], argTypes := #[4] }, type := 3, pos := "l03_codec.go:166", after := #[{ on := 8, ground := Ground.data }, { on := 4, ground := Ground.chain }], guard := none }) rfl (fun K hK => ?_) AllReadyH.nil
        go_simp
        refine (l01Bit_n d2 n2 N2.out _).mono ?_
        rintro e w9 ⟨rfl, rfl⟩
        go_wp2_with fail
        refine hK.out _ _ (q0) (fun hHeld => ?_)
        clear hK K
        try simp only [Act.put, List.setIfInBounds_toArray, List.set_cons_zero, List.set_cons_succ]
        refine wpAnyH_take (i := 10) (oi := { dst := some 41, op := Op.binOp BinOp.mul 3 (Operand.const (Value.int IntKind.i64 2)) (Operand.tmp 40) 3, type := 3, pos := "l03_codec.go:166", after := #[{ on := 9, ground := Ground.data }], guard := none }) (v := ?vb10) rfl (by kernel_rfl) (by kernel_rfl) (by kernel_rfl) (fun _ _ _ h => h) (Or.inl ⟨by rfl, ?hyb10⟩) (by assumption) ?restb10
        case hyb10 => intro w hSw; (try dsimp only at hSw); (first | (go_simp; done) | (go_simp; with_reducible rfl) | (with_reducible rfl))
        try simp only [Act.put, List.setIfInBounds_toArray, List.set_cons_zero, List.set_cons_succ]
        refine wpAnyH_take (i := 11) (oi := { dst := some 42, op := Op.binOp BinOp.add 3 (Operand.tmp 35) (Operand.tmp 41) 3, type := 3, pos := "l03_codec.go:166", after := #[{ on := 4, ground := Ground.data }, { on := 10, ground := Ground.data }], guard := none }) (v := ?vb11) rfl (by kernel_rfl) (by kernel_rfl) (by kernel_rfl) (fun _ _ _ h => h) (Or.inl ⟨by rfl, ?hyb11⟩) (by assumption) ?restb11
        case hyb11 => intro w hSw; (try dsimp only at hSw); (first | (go_simp; done) | (go_simp; with_reducible rfl) | (with_reducible rfl))
        try simp only [Act.put, List.setIfInBounds_toArray, List.set_cons_zero, List.set_cons_succ]
        refine wpAnyH_take (i := 12) (oi := { dst := some 7, op := Op.assign (Operand.tmp 42), type := 3, pos := "l03_codec.go:166", after := #[{ on := 11, ground := Ground.data }, { on := 9, ground := Ground.chain }, { on := 0, ground := Ground.phase }, { on := 1, ground := Ground.phase }, { on := 2, ground := Ground.phase }, { on := 3, ground := Ground.phase }, { on := 4, ground := Ground.phase }, { on := 5, ground := Ground.phase }, { on := 6, ground := Ground.phase }, { on := 7, ground := Ground.phase }, { on := 8, ground := Ground.phase }, { on := 9, ground := Ground.phase }, { on := 10, ground := Ground.phase }, { on := 11, ground := Ground.phase }], guard := none }) (v := ?vb12) rfl (by kernel_rfl) (by kernel_rfl) (by kernel_rfl) (fun _ _ _ h => h) (Or.inl ⟨by rfl, ?hyb12⟩) (by assumption) ?restb12
        case hyb12 => intro w hSw; (try dsimp only at hSw); (first | (go_simp; done) | (go_simp; with_reducible rfl) | (with_reducible rfl))
        try simp only [Act.put, List.setIfInBounds_toArray, List.set_cons_zero, List.set_cons_succ]
        refine wpAnyH_done (by kernel_rfl) ?_ _
        refine NoPanic.normal ?_
        have b1 : Below w.heap.size w w1.drew := hb1.drew
        have q1' : w1.drew.cell? ⟨b, o + 1, none⟩ = some (.string last) := q1
        clear hb1 q0 q1 hHeld
        rw [← HT3.out]
        have T0 : 0 ≤ tierV p ∧ tierV p ≤ 3 := by rw [HT3.out]; omega
        clear wt wu e1 e2 HT3 N1 N2
        generalize w1.drew = w2 at *
        have hkf : ∀ t n m, IsKey key t n m → tierV p = t ∧ last.extract 0 6 = sixT n.toNat ∧ last.extract 7 13 = sixT m.toNat ∧ KeyNP t n m := fun t n m h => by
          obtain ⟨e1, e2⟩ := HFX.out t n m h
          injection e1 with e1 _
          subst e1 e2
          exact ⟨tier_head h.1.1 h.1.2.1, tail_left _ _, tail_right _ _, h.1⟩
        have HKF := Lib.hid hkf; clear hkf HFX
        generalize tierV p = tv at *
        go_wp2_with fail
        refine (FL.out _).mono ?_
        rintro e w3 ⟨v, fo, rfl, hv, rfl⟩
        have HV := Lib.hid hv; clear hv FL
        go_wp2_with fail
        refine (FR.out _).mono ?_
        rintro e w3 ⟨u, fi, rfl, hu, rfl⟩
        have HU := Lib.hid hu; clear hu FR q1'
        cases fo
        · have HX := Lib.hid (show ∀ t n m, ¬ IsKey key t n m from fun t n m h => by
            obtain ⟨_, h2, _, h4⟩ := HKF.out t n m h
            have := (HV.out.2.2.2 n.toNat (by have := h4.2.2.2.1; omega) h2).1
            cases this)
          clear HKF HV HU
          go_wp2
          exact bodyPost_ret (v := .tuple #[.int .i64 0, .int .i64 0, .int .i64 0, .bool false]) (by simp [results, Tryz.results79, go_sem]) rfl (KeyEnd.no HX.out b1)
        cases fi
        · have HX := Lib.hid (show ∀ t n m, ¬ IsKey key t n m from fun t n m h => by
            obtain ⟨_, _, h3, h4⟩ := HKF.out t n m h
            have := (HU.out.2.2.2 m.toNat (by have := h4.2.2.2.2.2; omega) h3).1
            cases this)
          clear HKF HV HU
          go_wp2
          exact bodyPost_ret (v := .tuple #[.int .i64 0, .int .i64 0, .int .i64 0, .bool false]) (by simp [results, Tryz.results79, go_sem]) rfl (KeyEnd.no HX.out b1)
        have hall : ∀ t n m, IsKey key t n m → tv = t ∧ v = n ∧ u = m ∧ KeyNP tv v u := fun t n m h => by
          obtain ⟨h1, h2, h3, h4⟩ := HKF.out t n m h
          have a1 := (HV.out.2.2.2 n.toNat (by have := h4.2.2.2.1; omega) h2).2
          have a2 := (HU.out.2.2.2 m.toNat (by have := h4.2.2.2.2.2; omega) h3).2
          have a3 : v = n := by have := h4.2.2.1; omega
          have a4 : u = m := by have := h4.2.2.2.2.1; omega
          subst h1 a3 a4
          exact ⟨rfl, rfl, rfl, h4⟩
        have HA := Lib.hid hall; clear hall HKF HV HU
        go_wp2_with fail
        refine (l03KeyOK_any tv v u w2).mono ?_
        rintro e w3 ⟨kb, hkb, rfl, rfl⟩
        cases kb
        · have HX := Lib.hid (show ∀ t n m, ¬ IsKey key t n m from fun t n m h => by
            have := hkb.2 (HA.out t n m h).2.2.2
            cases this)
          clear HA hkb
          go_wp2
          exact bodyPost_ret (v := .tuple #[.int .i64 0, .int .i64 0, .int .i64 0, .bool false]) (by simp [results, Tryz.results79, go_sem]) rfl (KeyEnd.no HX.out b1)
        have HP := Lib.hid (hkb.1 rfl); clear hkb
        go_wp2_with fail
        refine (l03Key_any tv v u HP.out w2).mono ?_
        rintro e w3 ⟨rfl, hb3⟩
        have b3 := bnext b1 hb3
        by_cases hk2 : keyT tv.toNat v.toNat u.toNat = key
        · have HY := Lib.hid (show IsKey key tv v u from ⟨HP.out, hk2.symm⟩)
          have de : ((keyT tv.toNat v.toNat u.toNat).toList == key.toList) = true := by rw [hk2]; simp
          have dn : ((keyT tv.toNat v.toNat u.toNat).toList != key.toList) = false := by rw [hk2]; simp
          clear HA hk2 hb3 HP
          generalize keyT tv.toNat v.toNat u.toNat = KK at *
          go_wp2
          exact bodyPost_ret (v := .tuple #[.int .i64 tv, .int .i64 v, .int .i64 u, .bool true]) (by simp [results, Tryz.results79, go_sem]) rfl (KeyEnd.yes HY.out b3)
        · have HX := Lib.hid (show ∀ t n m, ¬ IsKey key t n m from fun t n m h => by
            obtain ⟨rfl, rfl, rfl, _⟩ := HA.out t n m h
            exact hk2 h.2.symm)
          have hne : (keyT tv.toNat v.toNat u.toNat).toList ≠ key.toList := fun h => hk2 (by
            rw [ByteArray.toList_eq, ByteArray.toList_eq] at h
            exact ba_eq h)
          have de : ((keyT tv.toNat v.toNat u.toNat).toList == key.toList) = false := by simpa using hne
          have dn : ((keyT tv.toNat v.toNat u.toNat).toList != key.toList) = true := by simpa using hne
          clear HA hk2 hb3 HP hne
          generalize keyT tv.toNat v.toNat u.toNat = KK at *
          go_wp2
          exact bodyPost_ret (v := .tuple #[.int .i64 0, .int .i64 0, .int .i64 0, .bool false]) (by simp [results, Tryz.results79, go_sem]) rfl (KeyEnd.no HX.out b3)
      · have d6 : ((last[6].toNat : Int) != 45) = true := by
          simp only [bne_iff_ne, ne_eq]
          intro h
          exact h6 (UInt8.toNat_inj.1 (by have e : (45 : UInt8).toNat = 45 := rfl
                                          omega))
        have HX := Lib.hid (show ∀ t n m, ¬ IsKey key t n m from fun t n m h => by
          obtain ⟨_, rfl⟩ := HFX.out t n m h
          exact h6 (tail_dash _ _ _))
        clear HFX h6
        go_wp2
        exact bodyPost_ret (v := .tuple #[.int .i64 0, .int .i64 0, .int .i64 0, .bool false]) (by simp [results, Tryz.results79, go_sem]) rfl (KeyEnd.no HX.out hb1)
    · have d13 : ((last.size : Int) != 13) = true := by simp; omega
      have HX := Lib.hid (show ∀ t n m, ¬ IsKey key t n m from fun t n m h => by
        obtain ⟨_, rfl⟩ := HFX.out t n m h
        exact h13 (tail_size _ _))
      clear HFX h13
      go_wp2
      exact bodyPost_ret (v := .tuple #[.int .i64 0, .int .i64 0, .int .i64 0, .bool false]) (by simp [results, Tryz.results79, go_sem]) rfl (KeyEnd.no HX.out hb1)

end Go.Proofs.YtpackpocnonpiaaGreatDoor
