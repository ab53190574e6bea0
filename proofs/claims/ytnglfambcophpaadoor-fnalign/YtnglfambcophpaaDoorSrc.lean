/-
  The model's source of choices: what it draws lies in its bounds, whatever the code; only its own block turns. Conditions: it has not been asked too often.
-/
import Derived.Test.YtnglfambcophpaaDoorBytes
import Derived.Test.YtnglfambcophpaaDoorMem
import Derived.Deep.QuietTactic
import Derived.BigQuiet
import Derived.StillTailTactics
import Derived.Outline
namespace Go.Proofs.YtnglfambcophpaaDoor
open Go.ChangeShapes Go.WideShapes Go.ChangeAt Go.RowKit
set_option linter.unusedVariables false

/-- a byte's cell -/
def byteV (x : Int) : List Value := [.int .u8 x]

/-- a slice of bytes -/
def BytesAt (w : World) (B : Nat) (A : Option Addr) (bs : List Int) : Prop := Sl byteV 1 w B A bs

theorem BytesAt.byte {w : World} {B : Nat} {A : Option Addr} {bs : List Int} (h : BytesAt w B A bs) {k : Nat} (hk : k < bs.length) :
    ∃ b off, A = some ⟨b, off, none⟩ ∧ b < B ∧ w.cell? ⟨b, off + k, none⟩ = some (.int .u8 bs[k]) := by
  obtain ⟨b, off, e, hb, hc⟩ := Sl.at_ h hk
  refine ⟨b, off, e, hb, ?_⟩
  have := hc 0 _ rfl
  simpa using this

/-- what lies below a block stays when that block alone turns -/
theorem Sl.under {α : Type} {f : α → List Value} {m : Nat} {w w' : World} {b : Nat} {A : Option Addr} {xs : List α} (h : Sl f m w b A xs) (hg : w.grownBy w' (some b)) (hb : b ≤ w.heap.size) : Sl f m w' b A xs := by
  intro hn
  obtain ⟨b', off, rfl, hlt, hc⟩ := h hn
  exact ⟨b', off, rfl, hlt, fun k hk j v hv => (World.cell?_of_block (a := ⟨b', off + k * m + j, none⟩) (hg.block b' (by omega) (fun e => by injection e; omega))).trans (hc k hk j v hv)⟩

/-- the source lies in block b, its code below it: asked k times, its seed -/
def SrcS (w : World) (b : Nat) (bs : List Int) (k : Nat) (seed : Int) : Prop := ∃ (A : Option Addr) (c : Nat),
  (w.cell? ⟨b, 0, none⟩ = some (.slice A bs.length c) ∧ w.cell? ⟨b, 1, none⟩ = some (.int .i64 (k : Int)) ∧ w.cell? ⟨b, 2, none⟩ = some (.int .i64 seed)) ∧ Free w (some ⟨b, 0, none⟩) ∧
  BytesAt w b A bs ∧ (∀ x ∈ bs, 0 ≤ x ∧ x ≤ 255) ∧ 0 ≤ seed ∧ seed < 2147483648 ∧ bs.length ≤ 1048576 ∧ b < w.heap.size

/-- the source lies in block b, asked at most q times -/
def Src (w : World) (b q : Nat) : Prop := ∃ (bs : List Int) (k : Nat) (seed : Int), SrcS w b bs k seed ∧ k ≤ q

/-- what it draws next, and its seed then -/
def byteStep (bs : List Int) (k : Nat) (seed : Int) : Int × Int :=
  if h : k < bs.length then (bs[k], (seed * 31 + bs[k] + 7) % 2147483648)
  else if 3000 < k + 1 then (0, seed)
  else ((seed * 1103515245 + 12345) % 2147483648 / 65536 % 256, (seed * 1103515245 + 12345) % 2147483648)

theorem SrcS.keep {w w' : World} {b k : Nat} {bs : List Int} {seed : Int} (h : SrcS w b bs k seed) (hb : Below (b + 1) w w') : SrcS w' b bs k seed := by
  obtain ⟨A, c, ⟨c0, c1, c2⟩, hf, hB, hx, h0, h1, hl, hlt⟩ := h
  exact ⟨A, c, ⟨(hb.cell (p := ⟨b, 0, none⟩) (by simp)).trans c0, (hb.cell (p := ⟨b, 1, none⟩) (by simp)).trans c1, (hb.cell (p := ⟨b, 2, none⟩) (by simp)).trans c2⟩, hf.below hb (fun b e => by simp [blk] at e; omega), Sl.below hB hb (by omega), hx, h0, h1, hl, Nat.lt_of_lt_of_le hlt hb.size⟩

theorem SrcS.lt {w : World} {b k : Nat} {bs : List Int} {seed : Int} (h : SrcS w b bs k seed) : b < w.heap.size := by
  obtain ⟨A, c, _, _, _, _, _, _, _, hlt⟩ := h
  exact hlt

theorem SrcS.ok {w : World} {b k : Nat} {bs : List Int} {seed : Int} (h : SrcS w b bs k seed) : 0 ≤ (byteStep bs k seed).1 ∧ (byteStep bs k seed).1 ≤ 255 := by
  obtain ⟨A, c, _, _, _, hx, _⟩ := h
  unfold byteStep
  split
  · rename_i hk; exact hx bs[k] (List.getElem_mem hk)
  · split
    · exact ⟨by simp, by simp⟩
    · exact ⟨by dsimp only; omega, by dsimp only; omega⟩

theorem Src.keep {w w' : World} {b q : Nat} (h : Src w b q) (hb : Below (b + 1) w w') : Src w' b q := by
  obtain ⟨bs, k, seed, hs, hk⟩ := h
  exact ⟨bs, k, seed, hs.keep hb, hk⟩

theorem Src.lt {w : World} {b q : Nat} (h : Src w b q) : b < w.heap.size := by
  obtain ⟨bs, k, seed, hs, hk⟩ := h
  exact hs.lt

theorem Src.more {w : World} {b q q' : Nat} (h : Src w b q) (hq : q ≤ q') : Src w b q' := by
  obtain ⟨bs, k, seed, hs, hk⟩ := h
  exact ⟨bs, k, seed, hs, by omega⟩

/-- what a call of the source's says: a number in its bounds; the source goes on; its block alone turns -/
def Drawn (n : Int) (b q : Nat) (w : World) (e : Ending) (w' : World) : Prop := ∃ r : Int, e = .returned (.int .i64 r) ∧ 0 ≤ r ∧ r < n ∧ Src w' b q ∧ w.grownBy w' (some b)

end Go.Proofs.YtnglfambcophpaaDoor
