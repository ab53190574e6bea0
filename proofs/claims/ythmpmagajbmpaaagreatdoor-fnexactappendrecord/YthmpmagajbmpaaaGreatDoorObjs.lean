/-
  Words for slices of objects in memory, and contracts of the laws' own helpers on them (eq, mark, held, sz, to).
-/
import Derived.Test.YthmpmagajbmpaaaGreatDoorKeyOK
import Derived.Test.YthmpmagajbmpaaaGreatDoorMem
import Derived.Deep.QuietTactic
import Derived.BigQuiet
import Derived.StillTailTactics
import Derived.Deep.Draws
import Derived.Laws.OwnMore
import Derived.Laws.BytesString
import Derived.Laws.IdiomStrings
namespace Go.Proofs.YthmpmagajbmpaaaGreatDoor
open Go.ChangeShapes Go.WideShapes Go.ChangeAt Go.RowKit
set_option linter.unusedVariables false

/-- an object as data -/
structure GObj where
  key : ByteArray
  ver : Int
  data : ByteArray
deriving DecidableEq

def GObj.val (o : GObj) : Value := .agg #[.string o.key, .int .i64 o.ver, .string o.data]

def GObj.vals (o : GObj) : List Value := [.string o.key, .int .i64 o.ver, .string o.data]

/-- a slice of objects -/
def ObjsAt (w : World) (B : Nat) (A : Option Addr) (xs : List GObj) : Prop := Sl GObj.vals 3 w B A xs

theorem ObjsAt.obj {w : World} {B : Nat} {A : Option Addr} {xs : List GObj} (h : ObjsAt w B A xs) {k : Nat} (hk : k < xs.length) :
    ∃ b off, A = some ⟨b, off, none⟩ ∧ b < B ∧ w.cell? ⟨b, off + k * 3, none⟩ = some (.string xs[k].key) ∧ w.cell? ⟨b, off + k * 3 + 1, none⟩ = some (.int .i64 xs[k].ver) ∧ w.cell? ⟨b, off + k * 3 + 2, none⟩ = some (.string xs[k].data) := by
  obtain ⟨b, off, e, hb, hc⟩ := Sl.at_ h hk
  exact ⟨b, off, e, hb, hc 0 _ rfl, hc 1 _ rfl, hc 2 _ rfl⟩

theorem eqObject_yes (o : GObj) (w : World) : Calls Tryz.prog 91 #[o.val, o.val] w fun e w' => e = .returned (.bool true) ∧ Below w.heap.size w w' := by
  unfold GObj.val
  go_enter Tryz.func91, Tryz.ntmps91
  go_wp2
  go_ret
  exact ⟨rfl, by repeat (first | exact Below.refl _ _ | refine Below.alloc ?_ (by simp) _)⟩

theorem ne_list {a b : ByteArray} (h : a ≠ b) : (a.toList == b.toList) = false := by
  rw [beq_eq_false_iff_ne]
  intro e
  rw [ByteArray.toList_eq, ByteArray.toList_eq] at e
  exact h (bytes_inj e)

theorem eqObject_no (o p : GObj) (h : o ≠ p) (w : World) : Calls Tryz.prog 91 #[o.val, p.val] w fun e w' => e = .returned (.bool false) ∧ Below w.heap.size w w' := by
  unfold GObj.val
  obtain ⟨k1, v1, d1⟩ := o
  obtain ⟨k2, v2, d2⟩ := p
  have H := Lib.hid h; clear h
  dsimp only
  by_cases hk : k1 = k2
  · subst hk
    by_cases hv : v1 = v2
    · subst hv
      by_cases hd : d1 = d2
      · subst hd; exact absurd rfl H.out
      · have h3 := ne_list hd
        clear hd
        go_enter Tryz.func91, Tryz.ntmps91
        go_wp2
        go_ret
        exact ⟨rfl, by repeat (first | exact Below.refl _ _ | refine Below.alloc ?_ (by simp) _)⟩
    · have h3 : (v1 == v2) = false := by simpa using hv
      have h4 : (v1 != v2) = true := by simpa using hv
      clear hv
      go_enter Tryz.func91, Tryz.ntmps91
      go_wp2
      go_ret
      exact ⟨rfl, by repeat (first | exact Below.refl _ _ | refine Below.alloc ?_ (by simp) _)⟩
  · have h3 := ne_list hk
    clear hk
    go_enter Tryz.func91, Tryz.ntmps91
    go_wp2
    go_ret
    exact ⟨rfl, by repeat (first | exact Below.refl _ _ | refine Below.alloc ?_ (by simp) _)⟩

theorem eqObject_any (o p : GObj) (w : World) : Calls Tryz.prog 91 #[o.val, p.val] w fun e w' => e = .returned (.bool (decide (o = p))) ∧ Below w.heap.size w w' := by
  by_cases h : o = p
  · subst h; simpa using eqObject_yes o w
  · simpa [h] using eqObject_no o p h w

set_option maxRecDepth 100000 in
theorem eqObjectS_any (A1 A2 : Option Addr) (c1 c2 : Nat) (xs ys : List GObj) (B : Nat) (w : World) (h1 : ObjsAt w B A1 xs) (h2 : ObjsAt w B A2 ys) (hB : B ≤ w.heap.size) (hl : xs.length ≤ 4611686018427387904) (hl2 : ys.length ≤ 4611686018427387904) :
    Calls Tryz.prog 54 #[.slice A1 xs.length c1, .slice A2 ys.length c2] w (IsBB (xs = ys) w) := by
  by_cases hlen : xs.length = ys.length
  · have hd : ((xs.length : Int) != (ys.length : Int)) = false := by simp; omega
    have hd2 : ((xs.length : Int) == (ys.length : Int)) = true := by simp; omega
    have Hlen := Lib.hid hlen; clear hlen
    have H1 := Lib.hid h1; clear h1
    have H2 := Lib.hid h2; clear h2
    go_enter Tryz.func54, Tryz.ntmps54
    go_wp2_with fail
    go_loopw [5] (fun i wr => ∃ k : Nat, k ≤ xs.length ∧ i = .int .i64 k ∧ Hid (xs.take k = ys.take k) ∧ Below w.heap.size w wr) (fun i _ => xs.length - (intOf i).toNat)
    case atStart => exact ⟨0, by omega, rfl, Lib.hid (by simp), Below.refl _ _⟩
    case round =>
      obtain ⟨k, hk, rfl, H, hb⟩ := hrel
      by_cases hlt : k < xs.length
      · have hy : k < ys.length := by have := Hlen.out; omega
        obtain ⟨b1, o1, rfl, hb1, p0, p1, p2⟩ := ObjsAt.obj (Sl.below H1.out hb hB) hlt
        obtain ⟨b2, o2, rfl, hb2, q0, q1, q2⟩ := ObjsAt.obj (Sl.below H2.out hb hB) hy
        go_wp2_with fail
        go_still_tail 8, (by kernel_rfl)
        have hb' := hb.drew
        change wpList _ _ _ _ _ wr.drew
        generalize wr.drew = w2 at hb' ⊢
        clear p0 p1 p2 q0 q1 q2
        go_wp2_with fail
        refine (eqObject_any xs[k] ys[k] w2).mono ?_
        rintro e w3 ⟨rfl, hb3⟩
        have hb4 : Below w.heap.size w w3 := hb'.trans (hb3.mono hb'.size)
        by_cases he : xs[k] = ys[k]
        · have hn : xs.take (k + 1) = ys.take (k + 1) := by
            rw [List.take_succ_eq_append_getElem hlt, List.take_succ_eq_append_getElem hy, H.out, he]
          have Hn := Lib.hid hn; clear hn
          have hd4 : decide (xs[k] = ys[k]) = true := by simpa using he
          clear he
          go_wp2
          go_roundw
          case rel => exact ⟨k + 1, by omega, by go_num, Hn, hb4⟩
          case measure => simp [intOf]; omega
        · have hn : ¬ (xs = ys) := fun h => he (by simp [h])
          have Hn := Lib.hid hn; clear hn
          have hd4 : decide (xs[k] = ys[k]) = false := by simpa using he
          clear he
          go_wp2
          go_ret
          exact ⟨false, by simp [Hn.out], rfl, hb4⟩
      · have hyes : xs = ys := by
          have h1 := H.out
          have h2 := Hlen.out
          rw [List.take_of_length_le (by omega), List.take_of_length_le (by omega)] at h1
          exact h1
        have Hy := Lib.hid hyes; clear hyes
        go_wp2
        go_ret
        exact ⟨true, by simp [Hy.out], rfl, hb⟩
  · have hd : ((xs.length : Int) != (ys.length : Int)) = true := by simp; omega
    have hd2 : ((xs.length : Int) == (ys.length : Int)) = false := by simp; omega
    have hno : ¬ (xs = ys) := fun h => hlen (by rw [h])
    have Hno := Lib.hid hno; clear hno hlen h1 h2
    go_enter Tryz.func54, Tryz.ntmps54
    go_wp2
    go_ret
    exact ⟨false, by simp [Hno.out], rfl, Below.refl _ _⟩

/-- a store's value -/
def storeV (A : Option Addr) (n c : Nat) (next : Int) : Value := .agg #[.slice A n c, .int .i64 next]

theorem eqStore_any (A1 A2 : Option Addr) (c1 c2 : Nat) (n1 n2 : Int) (xs ys : List GObj) (B : Nat) (w : World) (h1 : ObjsAt w B A1 xs) (h2 : ObjsAt w B A2 ys) (hB : B ≤ w.heap.size) (hl : xs.length ≤ 4611686018427387904) (hl2 : ys.length ≤ 4611686018427387904) :
    Calls Tryz.prog 19 #[.agg #[.slice A1 xs.length c1, .int .i64 n1], .agg #[.slice A2 ys.length c2, .int .i64 n2]] w (IsBB (xs = ys ∧ n1 = n2) w) := by
  have H1 := Lib.hid h1; clear h1
  have H2 := Lib.hid h2; clear h2
  go_enter Tryz.func19, Tryz.ntmps19
  go_wp2_with fail
  refine (eqObjectS_any A1 A2 c1 c2 xs ys B _ (Sl.below H1.out (((Below.refl _ _).alloc (by exact Nat.le_refl _) _).alloc (by simp) _) hB) (Sl.below H2.out (((Below.refl _ _).alloc (by exact Nat.le_refl _) _).alloc (by simp) _) hB) (by simp; omega) hl hl2).mono ?_
  rintro e w2 ⟨b, hb, rfl, hbel⟩
  have hc1 : w2.cell? ⟨w.heap.size, 1, none⟩ = some (.int .i64 n1) := by rw [hbel.cell (by simp; omega)]; simp
  have hc2 : w2.cell? ⟨w.heap.size + 1, 1, none⟩ = some (.int .i64 n2) := by rw [hbel.cell (by simp)]; simp
  have hw : Below w.heap.size w w2 := (((Below.refl _ _).alloc (Nat.le_refl _) _).alloc (by simp) _).trans (hbel.mono (by simp; omega))
  clear hbel
  cases b
  · have hn : ¬ (xs = ys ∧ n1 = n2) := fun h => by simp [h.1] at hb
    have Hn := Lib.hid hn; clear hn hb
    go_wp2
    go_ret
    exact ⟨false, by simp [Hn.out], rfl, hw⟩
  · by_cases he : n1 = n2
    · subst he
      have hn : (xs = ys ∧ n1 = n1) := ⟨hb.1 rfl, rfl⟩
      have Hn := Lib.hid hn; clear hn hb
      go_wp2
      go_ret
      exact ⟨true, by simp [Hn.out], rfl, hw⟩
    · have hn : ¬ (xs = ys ∧ n1 = n2) := fun h => he h.2
      have e1 : (n1 == n2) = false := by simpa using he
      have e2 : (n1 != n2) = true := by simpa using he
      have Hn := Lib.hid hn; clear hn hb he
      go_wp2
      go_ret
      exact ⟨false, by simp [Hn.out], rfl, hw⟩

/-- a text made of one byte -/
theorem conv1 (n : Int) (W : World) : (convert 160 9 (.slice (some ⟨W.heap.size, 0, none⟩) 1 1)).run Tryz.prog (W.alloc (.cells #[.int .u8 n] 5)) = .ok (.string ⟨#[UInt8.ofNat n.toNat]⟩) (W.alloc (.cells #[.int .u8 n] 5)) := by
  rw [run_convert_bytes_string _ _ _ 5 _ _ _ Tryz.underlying160 Tryz.underlying5 Tryz.underlying9]
  have hl := run_loadCells_list (P := Tryz.prog) (W.alloc (.cells #[.int .u8 n] 5)) ⟨W.heap.size, 0, none⟩ [.int .u8 n] (fun j v hj => by
    match j with
    | 0 => simp at hj; subst hj; simp [Addr.add]
    | j + 1 => simp at hj)
  rw [run_bytesToString _ _ 1 1 [n] hl]
  rfl

/-- the digits that the marks' texts are made of -/
def mtDig (n : Nat) (acc : ByteArray) : ByteArray := if h : n = 0 then acc else mtDig (n / 10) (⟨#[48 + UInt8.ofNat (n % 10)]⟩ ++ acc)
termination_by n
decreasing_by omega

/-- a mark's text -/
def mtx (k : Int) : ByteArray := if k ≤ 0 then ⟨#[109, 48]⟩ else ⟨#[109]⟩ ++ mtDig k.toNat ⟨#[]⟩

set_option maxRecDepth 100000 in
theorem markText_any (k : Int) (w : World) (hk : k ≤ 1000000000000) : Calls Tryz.prog 80 #[.int .i64 k] w fun e w' => e = .returned (.string (mtx k)) ∧ Below w.heap.size w w' := by
  by_cases h0 : k ≤ 0
  · have hd : decide (k ≤ 0) = true := by simpa using h0
    have he : mtx k = ⟨#[109, 48]⟩ := by unfold mtx; rw [if_pos h0]
    have He := Lib.hid he; clear he
    go_enter Tryz.func80, Tryz.ntmps80
    go_wp2
    go_ret
    exact ⟨by rw [He.out]; rfl, Below.refl _ _⟩
  · have hd : decide (k ≤ 0) = false := by simpa using h0
    obtain ⟨n, rfl⟩ : ∃ n : Nat, k = (n : Int) := ⟨k.toNat, by omega⟩
    have he : mtx n = ⟨#[109]⟩ ++ mtDig n ⟨#[]⟩ := by unfold mtx; rw [if_neg h0]; rfl
    have He := Lib.hid he; clear he
    have hcv := conv1
    go_enter Tryz.func80, Tryz.ntmps80
    go_wp2_with fail
    go_loopw [0, 3] (fun t o wr => ∃ (m : Nat) (s : ByteArray), t = .int .i64 m ∧ o = .string s ∧ m + s.size ≤ n ∧ Hid (mtDig m s = mtDig n ⟨#[]⟩) ∧ Below w.heap.size w wr) (fun t _ _ => (intOf t).toNat)
    case atStart => exact ⟨n, ⟨#[]⟩, rfl, rfl, Nat.le_refl _, Lib.hid rfl, Below.refl _ _⟩
    case round =>
      obtain ⟨m, s, rfl, rfl, hms, H, hb⟩ := hrel
      by_cases hlt : 0 < m
      · have hn : mtDig (m / 10) (⟨#[48 + UInt8.ofNat (m % 10)]⟩ ++ s) = mtDig n ⟨#[]⟩ := by
          rw [← H.out, mtDig.eq_1 m s, dif_neg (by omega)]
        have Hn := Lib.hid hn; clear hn
        have hsz : m / 10 + ((⟨#[48 + UInt8.ofNat (m % 10)]⟩ : ByteArray) ++ s).size ≤ n := by
          rw [ByteArray.size_append]
          show m / 10 + (1 + s.size) ≤ n
          omega
        have Hsz := Lib.hid hsz; clear hsz
        go_wp2
        go_roundw
        case rel => exact ⟨m / 10, _, by go_num, rfl, Hsz.out, Hn, hb.alloc hb.size _⟩
        case measure => simp [intOf]; omega
      · obtain rfl : m = 0 := by omega
        have hs : s = mtDig n ⟨#[]⟩ := by rw [← H.out, mtDig.eq_1 0 s, dif_pos rfl]
        have Hs := Lib.hid hs; clear hs
        go_wp2
        go_ret
        exact ⟨by rw [He.out, ← Hs.out]; rfl, hb⟩

end Go.Proofs.YthmpmagajbmpaaaGreatDoor
