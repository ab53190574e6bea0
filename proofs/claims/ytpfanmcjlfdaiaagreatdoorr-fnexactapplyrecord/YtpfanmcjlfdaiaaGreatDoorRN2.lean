/-
  Several texts as one: contracts that the law leans on; each part says what it proves and its conditions.
-/
import Derived.Test.YtpfanmcjlfdaiaaGreatDoorRNameOK
import Derived.Test.YtpfanmcjlfdaiaaGreatDoorRN1
import Derived.Deep.QuietTactic
import Derived.BigQuiet
import Derived.StillTailTactics
import Derived.Deep.Draws
import Derived.Laws.OwnMore
import Derived.Laws.BytesString
import Derived.Laws.IdiomStrings
import Derived.Test.YtpfanmcjlfdaiaaGreatDoorRBytes
import Derived.Outline
import Derived.Lib.Hide

/- Words for slices of objects in memory, and contracts of the laws' own helpers on them (eq, mark, held, sz, to). -/
namespace Go.Proofs.YtpfanmcjlfdaiaaGreatDoorR
open Go.ChangeShapes Go.WideShapes Go.ChangeAt Go.RowKit
set_option linter.unusedVariables false

/-- an object as data -/
structure GObj where
  key : ByteArray
  ver : Int
  data : ByteArray
deriving DecidableEq

def GObj.vals (o : GObj) : List Value := [.string o.key, .int .i64 o.ver, .string o.data]

/-- a slice of objects -/
def ObjsAt (w : World) (B : Nat) (A : Option Addr) (xs : List GObj) : Prop := Sl GObj.vals 3 w B A xs

theorem ObjsAt.obj {w : World} {B : Nat} {A : Option Addr} {xs : List GObj} (h : ObjsAt w B A xs) {k : Nat} (hk : k < xs.length) :
    ∃ b off, A = some ⟨b, off, none⟩ ∧ b < B ∧ w.cell? ⟨b, off + k * 3, none⟩ = some (.string xs[k].key) ∧ w.cell? ⟨b, off + k * 3 + 1, none⟩ = some (.int .i64 xs[k].ver) ∧ w.cell? ⟨b, off + k * 3 + 2, none⟩ = some (.string xs[k].data) := by
  obtain ⟨b, off, e, hb, hc⟩ := Sl.at_ h hk
  exact ⟨b, off, e, hb, hc 0 _ rfl, hc 1 _ rfl, hc 2 _ rfl⟩

theorem ne_list {a b : ByteArray} (h : a ≠ b) : (a.toList == b.toList) = false := by
  rw [beq_eq_false_iff_ne]
  intro e
  rw [ByteArray.toList_eq, ByteArray.toList_eq] at e
  exact h (bytes_inj e)

/-- a text made of one byte -/
theorem conv1 (n : Int) (W : World) : (convert 146 9 (.slice (some ⟨W.heap.size, 0, none⟩) 1 1)).run Tryz.prog (W.alloc (.cells #[.int .u8 n] 5)) = .ok (.string ⟨#[UInt8.ofNat n.toNat]⟩) (W.alloc (.cells #[.int .u8 n] 5)) := by
  rw [run_convert_bytes_string _ _ _ 5 _ _ _ Tryz.underlying146 Tryz.underlying5 Tryz.underlying9]
  have hl := run_loadCells_list (P := Tryz.prog) (W.alloc (.cells #[.int .u8 n] 5)) ⟨W.heap.size, 0, none⟩ [.int .u8 n] (fun j v hj => by
    match j with
    | 0 => simp at hj; subst hj; simp [Addr.add]
    | j + 1 => simp at hj)
  rw [run_bytesToString _ _ 1 1 [n] hl]
  rfl

/-- the digits that the marks' texts are made of -/
def mtDig (n : Nat) (acc : ByteArray) : ByteArray := if h : n = 0 then acc else mtDig (n / 10) (⟨#[48 + UInt8.ofNat (n % 10)]⟩ ++ acc)
termination_by n
decreasing_by omega

/-- a mark's text -/
def mtx (k : Int) : ByteArray := if k ≤ 0 then ⟨#[109, 48]⟩ else ⟨#[109]⟩ ++ mtDig k.toNat ⟨#[]⟩

set_option maxRecDepth 100000 in
theorem markText_any (k : Int) (w : World) (hk : k ≤ 1000000000000) : Calls Tryz.prog 71 #[.int .i64 k] w fun e w' => e = .returned (.string (mtx k)) ∧ Below w.heap.size w w' := by
  by_cases h0 : k ≤ 0
  · have hd : decide (k ≤ 0) = true := by simpa using h0
    have he : mtx k = ⟨#[109, 48]⟩ := by unfold mtx; rw [if_pos h0]
    have He := Lib.hid he; clear he
    go_enter Tryz.func71, Tryz.ntmps71
    go_wp2
    go_ret
    exact ⟨by rw [He.out]; rfl, Below.refl _ _⟩
  · have hd : decide (k ≤ 0) = false := by simpa using h0
    obtain ⟨n, rfl⟩ : ∃ n : Nat, k = (n : Int) := ⟨k.toNat, by omega⟩
    have he : mtx n = ⟨#[109]⟩ ++ mtDig n ⟨#[]⟩ := by unfold mtx; rw [if_neg h0]; rfl
    have He := Lib.hid he; clear he
    have hcv := conv1
    go_enter Tryz.func71, Tryz.ntmps71
    go_wp2_with fail
    go_loopw [0, 3] (fun t o wr => ∃ (m : Nat) (s : ByteArray), t = .int .i64 m ∧ o = .string s ∧ m + s.size ≤ n ∧ Hid (mtDig m s = mtDig n ⟨#[]⟩) ∧ Below w.heap.size w wr) (fun t _ _ => (intOf t).toNat)
    case atStart => exact ⟨n, ⟨#[]⟩, rfl, rfl, Nat.le_refl _, Lib.hid rfl, Below.refl _ _⟩
    case round =>
      obtain ⟨m, s, rfl, rfl, hms, H, hb⟩ := hrel
      by_cases hlt : 0 < m
      · have hn : mtDig (m / 10) (⟨#[48 + UInt8.ofNat (m % 10)]⟩ ++ s) = mtDig n ⟨#[]⟩ := by
          rw [← H.out, mtDig.eq_1 m s, dif_neg (by omega)]
        have Hn := Lib.hid hn; clear hn
        have hsz : m / 10 + ((⟨#[48 + UInt8.ofNat (m % 10)]⟩ : ByteArray) ++ s).size ≤ n := by
          rw [ByteArray.size_append]
          show m / 10 + (1 + s.size) ≤ n
          omega
        have Hsz := Lib.hid hsz; clear hsz
        go_wp2
        go_roundw
        case rel => exact ⟨m / 10, _, by go_num, rfl, Hsz.out, Hn, hb.alloc hb.size _⟩
        case measure => simp [intOf]; omega
      · obtain rfl : m = 0 := by omega
        have hs : s = mtDig n ⟨#[]⟩ := by rw [← H.out, mtDig.eq_1 0 s, dif_pos rfl]
        have Hs := Lib.hid hs; clear hs
        go_wp2
        go_ret
        exact ⟨by rw [He.out, ← Hs.out]; rfl, hb⟩

end Go.Proofs.YtpfanmcjlfdaiaaGreatDoorR

/- Contracts of the laws' marking helpers: mark writes its marks into every element of a slice of objects, held finds them there. -/
namespace Go.Proofs.YtpfanmcjlfdaiaaGreatDoorR
open Go.ChangeShapes Go.WideShapes Go.ChangeAt Go.RowKit
set_option linter.unusedVariables false

def mkObj (k : Int) : GObj := ⟨mtx k, k + 1, mtx (k + 2)⟩

def marks (k : Int) (n : Nat) : List GObj := (List.range n).map fun i : Nat => mkObj (k + 3 * (i : Int))

theorem vals_length (o : GObj) : o.vals.length = 3 := rfl

end Go.Proofs.YtpfanmcjlfdaiaaGreatDoorR

/- Words for aggregates, and contracts of what asks whether one is right, in both packages, and of the laws' own helpers on them. -/
namespace Go.Proofs.YtpfanmcjlfdaiaaGreatDoorR
open Go.ChangeShapes Go.WideShapes Go.ChangeAt Go.RowKit
set_option linter.unusedVariables false

/-- an aggregate as data -/
structure GAgg where
  cnt : Int
  sum : Int
  mn : Int
  mx : Int
  fst : Int
  lst : Int
deriving DecidableEq

/-- from low to high -/
def inB (n lo hi : Int) : Bool := decide (lo ≤ n ∧ n ≤ hi)

theorem inB_iff {n lo hi : Int} : inB n lo hi = true ↔ lo ≤ n ∧ n ≤ hi := by simp [inB]

theorem within_any (n lo hi : Int) (w : World) : Calls Tryz.prog 62 #[.int .i64 n, .int .i64 lo, .int .i64 hi] w fun e w' => e = .returned (.bool (inB n lo hi)) ∧ w = w' := by
  go_enter Tryz.func62, Tryz.ntmps62
  go_wp2
  all_goals go_ret
  all_goals refine ⟨?_, rfl⟩
  all_goals (simp [inB]; first | omega | (rw [Bool.eq_iff_iff]; simp; omega))

theorem inL_any (n lo hi : Int) (w : World) : Calls Tryz.prog 54 #[.int .i64 n, .int .i64 lo, .int .i64 hi] w fun e w' => e = .returned (.bool (inB n lo hi)) ∧ w = w' := by
  go_enter Tryz.func54, Tryz.ntmps54
  go_wp2
  all_goals go_ret
  all_goals refine ⟨?_, rfl⟩
  all_goals (simp [inB]; first | omega | (rw [Bool.eq_iff_iff]; simp; omega))

end Go.Proofs.YtpfanmcjlfdaiaaGreatDoorR

/- Contracts of WidthOf, KeepOf and AlignDown of both packages: what each answers at every tier and time. Conditions: the program's tables of widths and keeps hold what its text lays there. -/
namespace Go.Proofs.YtpfanmcjlfdaiaaGreatDoorR
open Go.ChangeShapes Go.WideShapes Go.ChangeAt Go.RowKit
set_option linter.unusedVariables false

/-- a tier's width -/
def wid (k : Nat) : Int := ([1, 5, 20] : List Int).getD k 0

/-- how long a tier is kept -/
def kep (k : Nat) : Int := ([40, 100, 400] : List Int).getD k 0

/-- a table of three numbers lies in a variable -/
def Tab3 (g : Nat) (f : Nat → Int) (w : World) : Prop := ∀ i, i < 3 → w.cell? ⟨g, i, none⟩ = some (.int .i64 (f i))

theorem Tab3.below {g : Nat} {f : Nat → Int} {w w' : World} (h : Tab3 g f w) (hb : Below w.heap.size w w') (hz : g < w.heap.size) : Tab3 g f w' := fun i hi => (hb.cell (p := ⟨g, i, none⟩) hz).trans (h i hi)

theorem three {k : Nat} (h : k < 3) : k = 0 ∨ k = 1 ∨ k = 2 := by omega

theorem inB_no {n lo hi : Int} (h : ¬ (lo ≤ n ∧ n ≤ hi)) : inB n lo hi = false := by
  cases e : inB n lo hi
  · rfl
  · exact absurd (inB_iff.1 e) h

theorem l04Width_in (k : Nat) (hk : k < 3) (w : World) : Calls Tryz.prog 90 #[.int .i64 k] w fun e w' => e = .returned (.int .i64 (wid k)) ∧ Below w.heap.size w w' := by
  rcases three hk with rfl | rfl | rfl
  all_goals go_enter Tryz.func90, Tryz.ntmps90
  all_goals go_wp2
  all_goals go_ret
  all_goals exact ⟨rfl, bal (Below.refl _ _) _⟩

end Go.Proofs.YtpfanmcjlfdaiaaGreatDoorR

/- Ranges, and contracts of what asks whether two times are one, in both packages. No conditions. -/
namespace Go.Proofs.YtpfanmcjlfdaiaaGreatDoorR
open Go.ChangeShapes Go.WideShapes Go.ChangeAt Go.RowKit
set_option linter.unusedVariables false
set_option linter.unusedSimpArgs false

/-- a range -/
def rngB (f t : Int) : Bool := decide (0 ≤ f ∧ f ≤ t ∧ t ≤ 100000)

theorem rngB_iff {f t : Int} : rngB f t = true ↔ 0 ≤ f ∧ f ≤ t ∧ t ≤ 100000 := by simp [rngB]

theorem isRange_any (f t : Int) (w : World) : Calls Tryz.prog 117 #[.int .i64 f, .int .i64 t] w fun e w' => e = .returned (.bool (rngB f t)) ∧ w = w' := by
  have hi : rngB f t = (inB f 0 t && decide (t ≤ 100000)) := by
    rw [Bool.eq_iff_iff]; simp only [rngB_iff, Bool.and_eq_true, inB_iff, decide_eq_true_eq]; omega
  have Hi := Lib.hid hi; clear hi
  go_enter Tryz.func117, Tryz.ntmps117
  go_wp2_with (go_at_call 62; refine (within_any _ _ _ _).mono ?_; rintro e w' ⟨rfl, rfl⟩)
  all_goals go_ret
  all_goals refine ⟨?_, rfl⟩
  all_goals (rw [Hi.out]; simp_all)

theorem l04Range_any (f t : Int) (w : World) : Calls Tryz.prog 83 #[.int .i64 f, .int .i64 t] w fun e w' => e = .returned (.bool (rngB f t)) ∧ w = w' := by
  have hi : rngB f t = (inB f 0 100000 && inB t f 100000) := by
    rw [Bool.eq_iff_iff]; simp only [rngB_iff, Bool.and_eq_true, inB_iff]; omega
  have Hi := Lib.hid hi; clear hi
  go_enter Tryz.func83, Tryz.ntmps83
  go_wp2_with (go_at_call 54; refine (inL_any _ _ _ _).mono ?_; rintro e w' ⟨rfl, rfl⟩)
  all_goals go_ret
  all_goals refine ⟨?_, rfl⟩
  all_goals (rw [Hi.out]; simp_all)

end Go.Proofs.YtpfanmcjlfdaiaaGreatDoorR
