/-
  Words for slices of objects in memory, and contracts of the laws' own helpers on them (eq, mark, held, sz, to).
-/
import Derived.Test.YtpackpocnonpiaaKeyOK
import Derived.Test.YtpackpocnonpiaaMem
import Derived.Deep.QuietTactic
import Derived.BigQuiet
import Derived.StillTailTactics
import Derived.Deep.Draws
import Derived.Laws.OwnMore
import Derived.Laws.BytesString
import Derived.Laws.IdiomStrings
namespace Go.Proofs.Ytpackpocnonpiaa
open Go.ChangeShapes Go.WideShapes Go.ChangeAt Go.RowKit
set_option linter.unusedVariables false

/-- an object as data -/
structure GObj where
  key : ByteArray
  ver : Int
  data : ByteArray
deriving DecidableEq

def GObj.val (o : GObj) : Value := .agg #[.string o.key, .int .i64 o.ver, .string o.data]

def GObj.vals (o : GObj) : List Value := [.string o.key, .int .i64 o.ver, .string o.data]

/-- a slice of objects -/
def ObjsAt (w : World) (B : Nat) (A : Option Addr) (xs : List GObj) : Prop := Sl GObj.vals 3 w B A xs

theorem ObjsAt.obj {w : World} {B : Nat} {A : Option Addr} {xs : List GObj} (h : ObjsAt w B A xs) {k : Nat} (hk : k < xs.length) :
    ∃ b off, A = some ⟨b, off, none⟩ ∧ b < B ∧ w.cell? ⟨b, off + k * 3, none⟩ = some (.string xs[k].key) ∧ w.cell? ⟨b, off + k * 3 + 1, none⟩ = some (.int .i64 xs[k].ver) ∧ w.cell? ⟨b, off + k * 3 + 2, none⟩ = some (.string xs[k].data) := by
  obtain ⟨b, off, e, hb, hc⟩ := Sl.at_ h hk
  exact ⟨b, off, e, hb, hc 0 _ rfl, hc 1 _ rfl, hc 2 _ rfl⟩

theorem ne_list {a b : ByteArray} (h : a ≠ b) : (a.toList == b.toList) = false := by
  rw [beq_eq_false_iff_ne]
  intro e
  rw [ByteArray.toList_eq, ByteArray.toList_eq] at e
  exact h (bytes_inj e)

/-- a store's value -/
def storeV (A : Option Addr) (n c : Nat) (next : Int) : Value := .agg #[.slice A n c, .int .i64 next]

/-- a text made of one byte -/
theorem conv1 (n : Int) (W : World) : (convert 59 9 (.slice (some ⟨W.heap.size, 0, none⟩) 1 1)).run Try.prog (W.alloc (.cells #[.int .u8 n] 5)) = .ok (.string ⟨#[UInt8.ofNat n.toNat]⟩) (W.alloc (.cells #[.int .u8 n] 5)) := by
  rw [run_convert_bytes_string _ _ _ 5 _ _ _ Try.underlying59 Try.underlying5 Try.underlying9]
  have hl := run_loadCells_list (P := Try.prog) (W.alloc (.cells #[.int .u8 n] 5)) ⟨W.heap.size, 0, none⟩ [.int .u8 n] (fun j v hj => by
    match j with
    | 0 => simp at hj; subst hj; simp [Addr.add]
    | j + 1 => simp at hj)
  rw [run_bytesToString _ _ 1 1 [n] hl]
  rfl

/-- the digits that the marks' texts are made of -/
def mtDig (n : Nat) (acc : ByteArray) : ByteArray := if h : n = 0 then acc else mtDig (n / 10) (⟨#[48 + UInt8.ofNat (n % 10)]⟩ ++ acc)
termination_by n
decreasing_by omega

/-- a mark's text -/
def mtx (k : Int) : ByteArray := if k ≤ 0 then ⟨#[109, 48]⟩ else ⟨#[109]⟩ ++ mtDig k.toNat ⟨#[]⟩

set_option maxRecDepth 100000 in
theorem markText_any (k : Int) (w : World) (hk : k ≤ 1000000000000) : Calls Try.prog 29 #[.int .i64 k] w fun e w' => e = .returned (.string (mtx k)) ∧ Below w.heap.size w w' := by
  by_cases h0 : k ≤ 0
  · have hd : decide (k ≤ 0) = true := by simpa using h0
    have he : mtx k = ⟨#[109, 48]⟩ := by unfold mtx; rw [if_pos h0]
    have He := Lib.hid he; clear he
    go_enter Try.func29, Try.ntmps29
    go_wp2
    go_ret
    exact ⟨by rw [He.out]; rfl, Below.refl _ _⟩
  · have hd : decide (k ≤ 0) = false := by simpa using h0
    obtain ⟨n, rfl⟩ : ∃ n : Nat, k = (n : Int) := ⟨k.toNat, by omega⟩
    have he : mtx n = ⟨#[109]⟩ ++ mtDig n ⟨#[]⟩ := by unfold mtx; rw [if_neg h0]; rfl
    have He := Lib.hid he; clear he
    have hcv := conv1
    go_enter Try.func29, Try.ntmps29
    go_wp2_with fail
    go_loopw [0, 3] (fun t o wr => ∃ (m : Nat) (s : ByteArray), t = .int .i64 m ∧ o = .string s ∧ m + s.size ≤ n ∧ Hid (mtDig m s = mtDig n ⟨#[]⟩) ∧ Below w.heap.size w wr) (fun t _ _ => (intOf t).toNat)
    case atStart => exact ⟨n, ⟨#[]⟩, rfl, rfl, Nat.le_refl _, Lib.hid rfl, Below.refl _ _⟩
    case round =>
      obtain ⟨m, s, rfl, rfl, hms, H, hb⟩ := hrel
      by_cases hlt : 0 < m
      · have hn : mtDig (m / 10) (⟨#[48 + UInt8.ofNat (m % 10)]⟩ ++ s) = mtDig n ⟨#[]⟩ := by
          rw [← H.out, mtDig.eq_1 m s, dif_neg (by omega)]
        have Hn := Lib.hid hn; clear hn
        have hsz : m / 10 + ((⟨#[48 + UInt8.ofNat (m % 10)]⟩ : ByteArray) ++ s).size ≤ n := by
          rw [ByteArray.size_append]
          show m / 10 + (1 + s.size) ≤ n
          omega
        have Hsz := Lib.hid hsz; clear hsz
        go_wp2
        go_roundw
        case rel => exact ⟨m / 10, _, by go_num, rfl, Hsz.out, Hn, hb.alloc hb.size _⟩
        case measure => simp [intOf]; omega
      · obtain rfl : m = 0 := by omega
        have hs : s = mtDig n ⟨#[]⟩ := by rw [← H.out, mtDig.eq_1 0 s, dif_pos rfl]
        have Hs := Lib.hid hs; clear hs
        go_wp2
        go_ret
        exact ⟨by rw [He.out, ← Hs.out]; rfl, hb⟩

end Go.Proofs.Ytpackpocnonpiaa
