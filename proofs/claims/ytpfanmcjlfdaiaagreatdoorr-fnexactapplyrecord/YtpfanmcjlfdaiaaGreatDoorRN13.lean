/-
  Several texts as one: contracts that the law leans on; each part says what it proves and its conditions.
-/
import Derived.Test.YtpfanmcjlfdaiaaGreatDoorRN10
import Derived.Test.YtpfanmcjlfdaiaaGreatDoorRSlDelI
import Derived.Test.YtpfanmcjlfdaiaaGreatDoorRTk
import Derived.Deep.DeepCutAuto
import Derived.Test.YtpfanmcjlfdaiaaGreatDoorRN12
import Derived.Test.YtpfanmcjlfdaiaaGreatDoorRAppS
import Derived.Test.YtpfanmcjlfdaiaaGreatDoorRAplV
import Derived.Test.YtpfanmcjlfdaiaaGreatDoorRAplY
import Derived.Test.YtpfanmcjlfdaiaaGreatDoorRAplR
import Derived.Test.YtpfanmcjlfdaiaaGreatDoorRAplR1
import Derived.Test.YtpfanmcjlfdaiaaGreatDoorRAplR2
import Derived.Test.YtpfanmcjlfdaiaaGreatDoorRStpS
import Derived.Test.YtpfanmcjlfdaiaaGreatDoorRRecE

/- A ledger whose map says something; what a store, an append and a change of the map make of it; what keys a state has. No Go text is walked here. -/
namespace Go.Proofs.YtpfanmcjlfdaiaaGreatDoorR
open Go.ChangeShapes Go.WideShapes Go.ChangeAt Go.RowKit Go.Deep Go.Joins Go.Maps
set_option linter.unusedVariables false
set_option linter.unusedSimpArgs false

/-- as Led, its map saying f -/
structure LedF (base g : Nat) (w : World) (s : GSt) (A : Option Addr) (c : Nat) (A2 : Option Addr) (c2 m n : Nat) (f : ByteArray → Bool) : Prop where
  cs : Cells w g 0 [.int .i64 s.sq, .int .i64 s.fe, .slice A s.ents.length c, .slice A2 s.tmbs.length c2, .int .i64 s.lo.a, .int .i64 s.lo.b, .int .i64 s.lo.c, .int .i64 s.hi.a, .int .i64 s.hi.b, .int .i64 s.hi.c, .map (some m)]
  fr : ∀ i, w.frozen? ⟨g, i, none⟩ = false
  gb : base ≤ g
  gl : g < w.heap.size
  oe : OwnSl GEnt.vals 4 103 base w (.slice A s.ents.length c) s.ents
  ot : OwnSl GTmb.vals 2 108 base w (.slice A2 s.tmbs.length c2) s.tmbs
  mb : base ≤ m
  mp : TxtFn w m n f
  eg : blk A ≠ some g
  tg : blk A2 ≠ some g
  mg : m ≠ g
  em : blk A ≠ some m
  tm : blk A2 ≠ some m
  et : ∀ b, blk A = some b → blk A2 ≠ some b
  nb : n ≤ 8192 + s.sq.toNat
  bl : base ≤ w.heap.size

theorem Led.toF {base g : Nat} {w : World} {s : GSt} {A : Option Addr} {c : Nat} {A2 : Option Addr} {c2 m n : Nat} (h : Led base g w s A c A2 c2 m n) : LedF base g w s A c A2 c2 m n (fun k => memB k (keysAll s)) :=
  ⟨h.cs, h.fr, h.gb, h.gl, h.oe, h.ot, h.mb, h.mp, h.eg, h.tg, h.mg, h.em, h.tm, h.et, h.nb, h.bl⟩

theorem LedF.toLed {base g : Nat} {w : World} {s : GSt} {A : Option Addr} {c : Nat} {A2 : Option Addr} {c2 m n : Nat} {f : ByteArray → Bool} (h : LedF base g w s A c A2 c2 m n f) (hf : ∀ k, f k = memB k (keysAll s)) : Led base g w s A c A2 c2 m n :=
  ⟨h.cs, h.fr, h.gb, h.gl, h.oe, h.ot, h.mb, (funext hf : f = fun k => memB k (keysAll s)) ▸ h.mp, h.eg, h.tg, h.mg, h.em, h.tm, h.et, h.nb, h.bl⟩

theorem LedF.lt1 {base g : Nat} {w : World} {s : GSt} {A : Option Addr} {c : Nat} {A2 : Option Addr} {c2 m n : Nat} {f : ByteArray → Bool} (h : LedF base g w s A c A2 c2 m n f) : ∀ b, blk A = some b → base ≤ b ∧ b < w.heap.size := fun b e => World.ownsRow.lt h.oe b (by rw [ownBlock_blk]; exact e)

theorem LedF.lt2 {base g : Nat} {w : World} {s : GSt} {A : Option Addr} {c : Nat} {A2 : Option Addr} {c2 m n : Nat} {f : ByteArray → Bool} (h : LedF base g w s A c A2 c2 m n f) : ∀ b, blk A2 = some b → base ≤ b ∧ b < w.heap.size := fun b e => World.ownsRow.lt h.ot b (by rw [ownBlock_blk]; exact e)

theorem LedF.kept {base g : Nat} {w : World} {s : GSt} {A : Option Addr} {c : Nat} {A2 : Option Addr} {c2 m n : Nat} {f : ByteArray → Bool} {w' : World} (h : LedF base g w s A c A2 c2 m n f) (hb : Below w.heap.size w w') : LedF base g w' s A c A2 c2 m n f :=
  ⟨h.cs.below hb h.gl, fun i => (hb.frozen (p := ⟨g, i, none⟩) h.gl).trans (h.fr i), h.gb, Nat.lt_of_lt_of_le h.gl hb.size, own_kept h.oe (fun b e => hb.block b (h.lt1 b e).2), own_kept h.ot (fun b e => hb.block b (h.lt2 b e).2), h.mb, h.mp.kept (hb.block m h.mp.lt), h.eg, h.tg, h.mg, h.em, h.tm, h.et, h.nb, Nat.le_trans h.bl hb.size⟩

/-- a number of the state is written -/
theorem LedF.cell {base g : Nat} {w : World} {s : GSt} {A : Option Addr} {c : Nat} {A2 : Option Addr} {c2 m n : Nat} {f : ByteArray → Bool} (h : LedF base g w s A c A2 c2 m n f) {s' : GSt} (k : Nat) (hk : k < 11) (v : Value) (hl : ([.int .i64 s.sq, .int .i64 s.fe, .slice A s.ents.length c, .slice A2 s.tmbs.length c2, .int .i64 s.lo.a, .int .i64 s.lo.b, .int .i64 s.lo.c, .int .i64 s.hi.a, .int .i64 s.hi.b, .int .i64 s.hi.c, .map (some m)]).set k v = [.int .i64 s'.sq, .int .i64 s'.fe, .slice A s'.ents.length c, .slice A2 s'.tmbs.length c2, .int .i64 s'.lo.a, .int .i64 s'.lo.b, .int .i64 s'.lo.c, .int .i64 s'.hi.a, .int .i64 s'.hi.b, .int .i64 s'.hi.c, .map (some m)]) (he : s'.ents = s.ents) (ht : s'.tmbs = s.tmbs) (hsq : s.sq.toNat ≤ s'.sq.toNat) : LedF base g (w.setCell ⟨g, k, none⟩ v) s' A c A2 c2 m n f := by
  have hx : ∀ i, i ≠ g → (w.setCell ⟨g, k, none⟩ v).heap[i]? = w.heap[i]? := fun i hi => Below.heap_setCell _ _ _ _ hi
  have hz : (w.setCell ⟨g, k, none⟩ v).heap.size = w.heap.size := size_setCell _ _ _
  refine ⟨?_, fun i => (frozen_setCell _ _ _ _).trans (h.fr i), h.gb, by rw [hz]; exact h.gl, ?_, ?_, h.mb, h.mp.kept (hx m h.mg), h.eg, h.tg, h.mg, h.em, h.tm, h.et, Nat.le_trans h.nb (by omega), by rw [hz]; exact h.bl⟩
  · have := h.cs.set (k := k) (by simpa using hk) v
    rw [Nat.zero_add, hl] at this
    exact this
  · rw [he]; exact own_kept h.oe (fun b e => hx b (fun e2 => h.eg (by rw [e, e2])))
  · rw [ht]; exact own_kept h.ot (fun b e => hx b (fun e2 => h.tg (by rw [e, e2])))

/-- the list of entries is another one: behind an append or a deletion, its slice being stored -/
theorem LedF.setEnts {base g : Nat} {w : World} {s : GSt} {A : Option Addr} {c : Nat} {A2 : Option Addr} {c2 m n : Nat} {f : ByteArray → Bool} (h : LedF base g w s A c A2 c2 m n f) {w5 : World} (hg : w.grownBy w5 (blk A)) {L : List GEnt} {A5 : Option Addr} {k5 : Nat} (hO : OwnSl GEnt.vals 4 103 base w5 (.slice A5 L.length k5) L) (hv : blk A5 = blk A ∨ ∀ b, blk A5 = some b → w.heap.size ≤ b) :
    LedF base g (w5.setCell ⟨g, 2, none⟩ (.slice A5 L.length k5)) { s with ents := L } A5 k5 A2 c2 m n f := by
  have hx : ∀ i, i ≠ g → (w5.setCell ⟨g, 2, none⟩ (.slice A5 L.length k5)).heap[i]? = w5.heap[i]? := fun i hi => Below.heap_setCell _ _ _ _ hi
  have hz : (w5.setCell ⟨g, 2, none⟩ (.slice A5 L.length k5)).heap.size = w5.heap.size := size_setCell _ _ _
  have hgk : w5.heap[g]? = w.heap[g]? := hg.block g h.gl (fun e => h.eg e.symm)
  have hmk : w5.heap[m]? = w.heap[m]? := hg.block m h.mp.lt (fun e => h.em e.symm)
  have htk : ∀ b, blk A2 = some b → w5.heap[b]? = w.heap[b]? := fun b e => hg.block b (h.lt2 b e).2 (fun e2 => h.et b e2.symm e)
  have cs5 : Cells w5 g 0 [.int .i64 s.sq, .int .i64 s.fe, .slice A s.ents.length c, .slice A2 s.tmbs.length c2, .int .i64 s.lo.a, .int .i64 s.lo.b, .int .i64 s.lo.c, .int .i64 s.hi.a, .int .i64 s.hi.b, .int .i64 s.hi.c, .map (some m)] := fun j v hv => (World.cell?_of_block (a := ⟨g, 0 + j, none⟩) hgk).trans (h.cs j v hv)
  have ne : ∀ x, x < w.heap.size → blk A ≠ some x → blk A5 ≠ some x := fun x hx hA e => by
    rcases hv with e1 | e1
    · exact hA (e1 ▸ e)
    · have := e1 x e; omega
  refine ⟨?_, fun i => (frozen_setCell _ _ _ _).trans ((World.frozen?_of_block (a := ⟨g, i, none⟩) hgk).trans (h.fr i)), h.gb, by rw [hz]; exact Nat.lt_of_lt_of_le h.gl hg.size, ?_, ?_, h.mb, h.mp.kept ((hx m h.mg).trans hmk), ne g h.gl h.eg, h.tg, h.mg, ne m h.mp.lt h.em, h.tm, ?_, h.nb, by rw [hz]; exact Nat.le_trans h.bl hg.size⟩
  · have := cs5.set (k := 2) (by simp) (.slice A5 L.length k5)
    simpa using this
  · exact own_kept hO (fun b e => hx b (fun e2 => ne g h.gl h.eg (by rw [e, e2])))
  · exact own_kept h.ot (fun b e => (hx b (fun e2 => h.tg (by rw [e, e2]))).trans (htk b e))
  · intro b e e2
    rcases hv with e1 | e1
    · exact h.et b (e1 ▸ e) e2
    · have h1 := e1 b e; have h2 := (h.lt2 b e2).2; omega

theorem LedF.setTmbs {base g : Nat} {w : World} {s : GSt} {A : Option Addr} {c : Nat} {A2 : Option Addr} {c2 m n : Nat} {f : ByteArray → Bool} (h : LedF base g w s A c A2 c2 m n f) {w5 : World} (hg : w.grownBy w5 (blk A2)) {L : List GTmb} {A5 : Option Addr} {k5 : Nat} (hO : OwnSl GTmb.vals 2 108 base w5 (.slice A5 L.length k5) L) (hv : blk A5 = blk A2 ∨ ∀ b, blk A5 = some b → w.heap.size ≤ b) :
    LedF base g (w5.setCell ⟨g, 3, none⟩ (.slice A5 L.length k5)) { s with tmbs := L } A c A5 k5 m n f := by
  have hx : ∀ i, i ≠ g → (w5.setCell ⟨g, 3, none⟩ (.slice A5 L.length k5)).heap[i]? = w5.heap[i]? := fun i hi => Below.heap_setCell _ _ _ _ hi
  have hz : (w5.setCell ⟨g, 3, none⟩ (.slice A5 L.length k5)).heap.size = w5.heap.size := size_setCell _ _ _
  have hgk : w5.heap[g]? = w.heap[g]? := hg.block g h.gl (fun e => h.tg e.symm)
  have hmk : w5.heap[m]? = w.heap[m]? := hg.block m h.mp.lt (fun e => h.tm e.symm)
  have hek : ∀ b, blk A = some b → w5.heap[b]? = w.heap[b]? := fun b e => hg.block b (h.lt1 b e).2 (fun e2 => h.et b e e2.symm)
  have cs5 : Cells w5 g 0 [.int .i64 s.sq, .int .i64 s.fe, .slice A s.ents.length c, .slice A2 s.tmbs.length c2, .int .i64 s.lo.a, .int .i64 s.lo.b, .int .i64 s.lo.c, .int .i64 s.hi.a, .int .i64 s.hi.b, .int .i64 s.hi.c, .map (some m)] := fun j v hv => (World.cell?_of_block (a := ⟨g, 0 + j, none⟩) hgk).trans (h.cs j v hv)
  have ne : ∀ x, x < w.heap.size → blk A2 ≠ some x → blk A5 ≠ some x := fun x hx hA e => by
    rcases hv with e1 | e1
    · exact hA (e1 ▸ e)
    · have := e1 x e; omega
  refine ⟨?_, fun i => (frozen_setCell _ _ _ _).trans ((World.frozen?_of_block (a := ⟨g, i, none⟩) hgk).trans (h.fr i)), h.gb, by rw [hz]; exact Nat.lt_of_lt_of_le h.gl hg.size, ?_, ?_, h.mb, h.mp.kept ((hx m h.mg).trans hmk), h.eg, ne g h.gl h.tg, h.mg, h.em, ne m h.mp.lt h.tm, ?_, h.nb, by rw [hz]; exact Nat.le_trans h.bl hg.size⟩
  · have := cs5.set (k := 3) (by simp) (.slice A5 L.length k5)
    simpa using this
  · exact own_kept h.oe (fun b e => (hx b (fun e2 => h.eg (by rw [e, e2]))).trans (hek b e))
  · exact own_kept hO (fun b e => hx b (fun e2 => ne g h.gl h.tg (by rw [e, e2])))
  · intro b e e2
    rcases hv with e1 | e1
    · exact h.et b e (e1 ▸ e2)
    · have h1 := e1 b e2; have h2 := (h.lt1 b e).2; omega

theorem LedF.setMap {base g : Nat} {w : World} {s : GSt} {A : Option Addr} {c : Nat} {A2 : Option Addr} {c2 m n : Nat} {f : ByteArray → Bool} (h : LedF base g w s A c A2 c2 m n f) {w5 : World} (hg : w.grownBy w5 (some m)) {n' : Nat} {f' : ByteArray → Bool} (hm : TxtFn w5 m n' f') (hn : n' ≤ 8192 + s.sq.toNat) : LedF base g w5 s A c A2 c2 m n' f' := by
  have hgk : w5.heap[g]? = w.heap[g]? := hg.block g h.gl (fun e => h.mg (by injection e with e; exact e.symm))
  exact ⟨fun j v hv => (World.cell?_of_block (a := ⟨g, 0 + j, none⟩) hgk).trans (h.cs j v hv), fun i => (World.frozen?_of_block (a := ⟨g, i, none⟩) hgk).trans (h.fr i), h.gb, Nat.lt_of_lt_of_le h.gl hg.size, own_kept h.oe (fun b e => hg.block b (h.lt1 b e).2 (fun e2 => h.em (e.trans e2))), own_kept h.ot (fun b e => hg.block b (h.lt2 b e).2 (fun e2 => h.tm (e.trans e2))), h.mb, hm, h.eg, h.tg, h.mg, h.em, h.tm, h.et, hn, Nat.le_trans h.bl hg.size⟩

theorem mem_keysAll {s : GSt} {k : ByteArray} : k ∈ keysAll s ↔ (∃ e ∈ s.ents, e.key = k) ∨ (∃ t ∈ s.tmbs, t.key = k) := by
  simp only [keysAll, keysR, List.take_length, List.mem_append, List.mem_reverse, List.mem_map]
  exact Or.comm

theorem memB_eq {k : ByteArray} {b : Bool} {ks : List ByteArray} (h : b = true ↔ k ∈ ks) : b = memB k ks := by rw [Bool.eq_iff_iff, h, memB_iff]

theorem keys_enter {s s' : GSt} {e : GEnt} (he : s'.ents = s.ents ++ [e]) (ht : s'.tmbs = s.tmbs) (k : ByteArray) : (decide (k = e.key) || memB k (keysAll s)) = memB k (keysAll s') := by
  apply memB_eq
  rw [Bool.or_eq_true, decide_eq_true_eq, memB_iff, mem_keysAll, mem_keysAll, he, ht]
  constructor
  · rintro (h | ⟨x, hx, h⟩ | h)
    · exact .inl ⟨e, by simp, h.symm⟩
    · exact .inl ⟨x, by simp [hx], h⟩
    · exact .inr h
  · rintro (⟨x, hx, h⟩ | h)
    · rcases List.mem_append.1 hx with hx | hx
      · exact .inr (.inl ⟨x, hx, h⟩)
      · simp at hx; subst hx; exact .inl h.symm
    · exact .inr (.inr h)

theorem keys_same {s s' : GSt} (he : s'.ents = s.ents) (ht : s'.tmbs = s.tmbs) (k : ByteArray) : memB k (keysAll s) = memB k (keysAll s') := by
  apply memB_eq
  rw [memB_iff, mem_keysAll, mem_keysAll, he, ht]

theorem erase_first {α : Type} (p : α → Bool) (e : α) (hp : p e = true) : ∀ (xs : List α) (k : Nat) (hk : k < xs.length), xs.find? p = some e → xs[k] = e → (∀ j (h : j < xs.length), j < k → xs[j] ≠ e) → xs.eraseIdx k = xs.eraseP p
  | x :: xs, k, hk, hf, h1, h2 => by
    by_cases hx : p x = true
    · have hxe : x = e := by simpa [List.find?, hx] using hf
      have hk0 : k = 0 := by
        rcases Nat.eq_zero_or_pos k with h | h
        · exact h
        · exact absurd hxe (h2 0 (by simp) h)
      subst hk0
      simp [hx]
    · have hf' : xs.find? p = some e := by simpa [List.find?, hx] using hf
      cases k with
      | zero => exact absurd (by rw [show x = e from h1]; exact hp) hx
      | succ k =>
        simp only [List.eraseIdx_cons_succ]
        rw [List.eraseP_cons_of_neg (by simpa using hx), erase_first p e hp xs k (by simpa using hk) hf' (by simpa using h1) (fun j h hj => by have := h2 (j + 1) (by simpa using h) (by omega); simpa using this)]

theorem erase_only {α β : Type} [DecidableEq β] (f : α → β) (b : β) : ∀ (xs : List α) (k : Nat) (hk : k < xs.length), f xs[k] = b → (xs.map f).Nodup → xs.eraseIdx k = xs.filter fun x => decide (¬ f x = b)
  | x :: xs, 0, hk, h1, h2 => by
    have hx : f x = b := h1
    have h3 : ∀ y ∈ xs, f y ≠ b := fun y hy e => by
      have := (List.nodup_cons.1 (show (f x :: xs.map f).Nodup from h2)).1
      exact this (List.mem_map.2 ⟨y, hy, by rw [e, hx]⟩)
    have h4 : xs.filter (fun x => decide (¬ f x = b)) = xs := List.filter_eq_self.2 (fun y hy => by simpa using h3 y hy)
    simp only [List.eraseIdx_cons_zero]
    rw [List.filter_cons_of_neg (by simpa using hx), h4]
  | x :: xs, k + 1, hk, h1, h2 => by
    have h3 := List.nodup_cons.1 (show (f x :: xs.map f).Nodup from h2)
    have hk' : k < xs.length := by simpa using hk
    have h4 : f xs[k] = b := h1
    have hx : f x ≠ b := fun e => h3.1 (List.mem_map.2 ⟨xs[k], List.getElem_mem hk', by rw [h4, e]⟩)
    simp only [List.eraseIdx_cons_succ]
    rw [List.filter_cons_of_pos (by simpa using hx), erase_only f b xs k hk' h4 h3.2]

end Go.Proofs.YtpfanmcjlfdaiaaGreatDoorR

/- Contract of the program's takesRetire. Conditions: the record's tier is one, lengths. -/
namespace Go.Proofs.YtpfanmcjlfdaiaaGreatDoorR
open Go.ChangeShapes Go.WideShapes Go.ChangeAt Go.RowKit Go.Deep Go.Joins Go.Maps
set_option linter.unusedVariables false
set_option linter.unusedSimpArgs false

theorem led10 {base g : Nat} {w : World} {s : GSt} {A : Option Addr} {c : Nat} {A2 : Option Addr} {c2 m n : Nat} (h : Led base g w s A c A2 c2 m n) : Cells w g 0 [.int .i64 s.sq, .int .i64 s.fe, .slice A s.ents.length c, .slice A2 s.tmbs.length c2, .int .i64 s.lo.a, .int .i64 s.lo.b, .int .i64 s.lo.c, .int .i64 s.hi.a, .int .i64 s.hi.b, .int .i64 s.hi.c] := fun j v hv =>
  h.cs j v (by
    have hj := (List.getElem?_eq_some_iff.1 hv).1
    rw [← hv]
    exact List.getElem?_append_left (l₂ := [.map (some m)]) hj)

def TakeR (s : GSt) (r : GRec) : Prop := r.tok = s.fe ∧ firstE s.ents r.tier = some r.ent ∧ upB s r.tier.toNat r.ent = true

theorem rolledUp_any (A : Option Addr) (c : Nat) (A2 : Option Addr) (c2 : Nat) (s : GSt) (e : GEnt) (he : 0 ≤ e.tier ∧ e.tier ≤ 2) (w : World) :
    Calls Tryz.prog 121 #[.agg #[.int .i64 s.sq, .int .i64 s.fe, .slice A s.ents.length c, .slice A2 s.tmbs.length c2, .int .i64 s.lo.a, .int .i64 s.lo.b, .int .i64 s.lo.c, .int .i64 s.hi.a, .int .i64 s.hi.b, .int .i64 s.hi.c], .agg #[.int .i64 e.tier, .int .i64 e.beg, .int .i64 e.fin, .string e.key]] w fun r w' => r = .returned (.bool (upB s e.tier.toNat e)) ∧ Below w.heap.size w w' := by
  obtain ⟨t, b, f, ky⟩ := e
  rcases (show t = 0 ∨ t = 1 ∨ t = 2 by dsimp only at he; omega) with rfl | rfl | rfl
  · exact rolledUp_0 A c A2 c2 s b f ky w
  · exact rolledUp_1 A c A2 c2 s b f ky w
  · exact rolledUp_2 A c A2 c2 s b f ky w

theorem eqEntV (a b : GEnt) (r : Bool) (hr : decide (a = b) = r) (w : World) : (Op.equalIn 10000 103 (.agg #[.int .i64 a.tier, .int .i64 a.beg, .int .i64 a.fin, .string a.key]) (.agg #[.int .i64 b.tier, .int .i64 b.beg, .int .i64 b.fin, .string b.key])).run Tryz.prog w = .ok r w := by
  subst hr
  rcases ent_cases a b with rfl | ⟨hn, g0⟩ | ⟨hn, g0, g1⟩ | ⟨hn, g0, g1, g2⟩ | ⟨hn, g0, g1, g2, g3⟩ <;> simp [go_sem, *]

theorem far4R {w : World} {g x z : Nat} {LS : List Value} {u a b c d : Value} (h : w.rangeAt g 0 LS ∧ w.cell? ⟨x, 2, none⟩ = some u) (hg : g ≠ z) (hx : x ≠ z) :
    ((((w.setCell ⟨z, 0, none⟩ a).setCell ⟨z, 1, none⟩ b).setCell ⟨z, 2, none⟩ c).setCell ⟨z, 3, none⟩ d).rangeAt g 0 LS ∧ ((((w.setCell ⟨z, 0, none⟩ a).setCell ⟨z, 1, none⟩ b).setCell ⟨z, 2, none⟩ c).setCell ⟨z, 3, none⟩ d).cell? ⟨x, 2, none⟩ = some u := by
  have hn : ∀ (w : World) (y i j : Nat) (v : Value), y ≠ z → (w.setCell ⟨z, i, none⟩ v).cell? ⟨y, j, none⟩ = w.cell? ⟨y, j, none⟩ := fun w y i j v hy => World.cell?_setCell_other w ⟨z, i, none⟩ ⟨y, j, none⟩ v (fun e => by injection e with e1; exact hy e1.symm)
  refine ⟨fun j v hv => ?_, ?_⟩
  · rw [hn _ _ _ _ _ hg, hn _ _ _ _ _ hg, hn _ _ _ _ _ hg, hn _ _ _ _ _ hg]; exact h.1 j v hv
  · rw [hn _ _ _ _ _ hx, hn _ _ _ _ _ hx, hn _ _ _ _ _ hx, hn _ _ _ _ _ hx]; exact h.2

theorem set4R {w : World} {z : Nat} {a b c d a' b' c' d' : Value} (h : Cells w z 0 [a, b, c, d]) : Cells ((((w.setCell ⟨z, 0, none⟩ a').setCell ⟨z, 1, none⟩ b').setCell ⟨z, 2, none⟩ c').setCell ⟨z, 3, none⟩ d') z 0 [a', b', c', d'] := by
  have h1 := h.set (k := 0) (by simp) a'
  have h2 := h1.set (k := 1) (by simp) b'
  have h3 := h2.set (k := 2) (by simp) c'
  have h4 := h3.set (k := 3) (by simp) d'
  simpa using h4

theorem below4R {B z : Nat} {a w : World} (h : Below B a w) (hz : B ≤ z) (p q r s : Value) : Below B a ((((w.setCell ⟨z, 0, none⟩ p).setCell ⟨z, 1, none⟩ q).setCell ⟨z, 2, none⟩ r).setCell ⟨z, 3, none⟩ s) :=
  (((h.setCell hz p).setCell hz q).setCell hz r).setCell hz s

set_option maxRecDepth 100000 in
set_option maxHeartbeats 4000000 in
theorem takesRetire_any (base g : Nat) (s : GSt) (A : Option Addr) (c : Nat) (A2 : Option Addr) (c2 m n : Nat) (w : World) (hL : Led base g w s A c A2 c2 m n) (r : GRec) (ht : 0 ≤ r.tier ∧ r.tier ≤ 2) (hl : s.ents.length ≤ 1048576) :
    Calls Tryz.prog 102 #[.pointer (some ⟨g, 0, none⟩), .agg #[.int .i64 r.kind, .int .i64 r.tok, .int .i64 r.tier, .int .i64 r.beg, .int .i64 r.fin, .string r.key]] w (IsBB (TakeR s r) w) := by
  have hgl := hL.gl
  have HST := Lib.hid hL.st.1
  obtain ⟨e, he⟩ : ∃ e, e = (firstE s.ents r.tier).getD zEnt := ⟨_, rfl⟩
  have HE := Lib.hid he; clear he
  obtain ⟨so, hso⟩ : ∃ b, b = (firstE s.ents r.tier).isSome := ⟨_, rfl⟩
  have HSO := Lib.hid hso; clear hso
  obtain ⟨W, hW⟩ : ∃ W, W = w.alloc (.cells #[.int .i64 r.kind, .int .i64 r.tok, .int .i64 r.tier, .int .i64 r.beg, .int .i64 r.fin, .string r.key] 38) := ⟨_, rfl⟩
  obtain ⟨LS, hLS⟩ : ∃ L : List Value, L = [.int .i64 s.sq, .int .i64 s.fe, .slice A s.ents.length c, .slice A2 s.tmbs.length c2, .int .i64 s.lo.a, .int .i64 s.lo.b, .int .i64 s.lo.c, .int .i64 s.hi.a, .int .i64 s.hi.b, .int .i64 s.hi.c] := ⟨_, rfl⟩
  have HNS : Hid (LS.length = 10) := Lib.hid (by rw [hLS]; rfl)
  have ES : Hid (Value.agg LS.toArray = .agg #[.int .i64 s.sq, .int .i64 s.fe, .slice A s.ents.length c, .slice A2 s.tmbs.length c2, .int .i64 s.lo.a, .int .i64 s.lo.b, .int .i64 s.lo.c, .int .i64 s.hi.a, .int .i64 s.hi.b, .int .i64 s.hi.c]) := Lib.hid (by rw [hLS])
  have b0 : Below w.heap.size w W := by rw [hW]; exact bal (Below.refl _ _) _
  have s0 : w.heap.size < W.heap.size := by rw [hW]; simp
  have gl : g < W.heap.size := by omega
  have CS : Hid (Cells W g 0 LS) := Lib.hid (by rw [hLS]; exact (led10 hL).below b0 hgl)
  have CR : Hid (Cells W w.heap.size 0 [.int .i64 r.kind, .int .i64 r.tok, .int .i64 r.tier, .int .i64 r.beg, .int .i64 r.fin, .string r.key]) := Lib.hid (by rw [hW]; exact Cells.new w _ _)
  have r2 := CR.out 2 _ rfl
  simp only [Nat.zero_add] at r2
  have HF : Hid (∀ w', Below w.heap.size w w' → Calls Tryz.prog 120 #[.agg LS.toArray, .int .i64 r.tier] w' (fun q w2 => q = .returned (.tuple #[.agg #[.int .i64 e.tier, .int .i64 e.beg, .int .i64 e.fin, .string e.key], .bool so]) ∧ Below w'.heap.size w' w2)) := Lib.hid (fun w' hb => by
    rw [ES.out, HE.out, HSO.out]
    exact firstOf_any A c A2 c2 s r.tier w.heap.size w' (HST.out.below hb (Nat.le_refl _)) hb.size hl)
  have HW := Lib.hid hW; clear hW hLS
  have HL := Lib.hid hL; clear hL
  go_enter Tryz.func102, Tryz.ntmps102
  go_upto_region 1 with fail
  rw [← HW.out]
  go_cut [5, 6] (fun p q wx => ∃ (z : Nat), p = .pointer (some ⟨z, 0, none⟩) ∧ q = .bool so ∧ Hid (Cells wx z 0 [.int .i64 e.tier, .int .i64 e.beg, .int .i64 e.fin, .string e.key]) ∧ Hid (Below W.heap.size W wx) ∧ W.heap.size ≤ z ∧ z < wx.heap.size)
  case first =>
    refine wp_region_noPanic ?_
    refine wp_region_held_drew (S := fun w' => w'.rangeAt g 0 LS ∧ w'.cell? ⟨w.heap.size, 2, none⟩ = some (.int .i64 r.tier)) (by kernel_rfl) (by exact ⟨rngL CS.out (Below.refl W.heap.size W).drew gl, r2⟩) (fun hHeld => ?_)
    refine kT 0 ?_
    go_frame
    refine kT 1 ?_
    go_frame
    refine kT 2 ?_
    go_frame
    refine' wpAnyH_take (i := 3) (oi := { dst := some 11, op := Op.load 34 (Operand.tmp 10), type := 34, pos := "l06_manifest.go:293", after := #[{ on := 2, ground := Ground.data }], guard := none }) (v := _) rfl (by kernel_rfl) (by kernel_rfl) (by kernel_rfl) (fun _ _ _ h => h) (yieldsIf_load_mid (by rfl) _ _ rfl _ _ rfl LS _ ?hSa3 ?hua3 ?hda3 ?hia3) (by assumption) ?resta3
    case hSa3 => exact fun w hSw => hSw.1
    case hua3 => exact Tryz.underlying34
    case hda3 => rfl
    case hia3 => exact infoStt.trans (by rw [HNS.out])
    try simp only [Act.put, List.setIfInBounds_toArray, List.set_cons_zero, List.set_cons_succ]
    refine kT 4 ?_
    go_frame
    refine kT 5 ?_
    go_frame
    refine wpAnyH_ready (rs := [6, 10]) (by kernel_rfl) (by simp) ?_
    refine AllReadyH.cons (o := { dst := some 14, op := Op.call { callee := Callee.value (Operand.func 120), args := #[Operand.tmp 11, Operand.tmp 13], argTypes := #[34, 3] }, type := 161, pos := "l06_manifest.go:293", after := #[{ on := 3, ground := Ground.data }, { on := 5, ground := Ground.data }], guard := none }) rfl (fun K hK => ?_) (AllReadyH.cons (o := { dst := some 5, op := Op.alloc 103, type := 0, pos := "l06_manifest.go:293", after := #[], guard := none }) rfl (fun K hK => ?_) AllReadyH.nil)
    · go_simp
      have hqf := HF.out W.drew b0.drew
      refine hqf.mono ?_
      rintro q w3 ⟨rfl, hb3'⟩
      have hb3 : Below W.heap.size W w3 := (Below.refl _ _).drew.trans hb3'
      clear hb3' hqf
      refine hK.out _ _ (by exact ⟨rngL CS.out hb3 gl, (hb3.cell (p := ⟨w.heap.size, 2, none⟩) s0).trans r2⟩) (fun hHeld => ?_)
      clear hK K
      try simp only [Act.put, List.setIfInBounds_toArray, List.set_cons_zero, List.set_cons_succ]
      refine kT 7 ?_
      go_frame
      refine kT 8 ?_
      go_frame
      refine kT 9 ?_
      go_frame
      refine wpAnyH_ready (rs := [10]) (by kernel_rfl) (by simp) ?_
      refine AllReadyH.cons (o := { dst := some 5, op := Op.alloc 103, type := 0, pos := "l06_manifest.go:293", after := #[], guard := none }) rfl (fun K hK => ?_) AllReadyH.nil
      go_simp
      refine hK.out _ _ (by exact ⟨rngL CS.out (hb3.alloc hb3.size _) gl, ((hb3.alloc hb3.size _).cell (p := ⟨w.heap.size, 2, none⟩) s0).trans r2⟩) (fun hHeld => ?_)
      clear hK K
      try simp only [Act.put, List.setIfInBounds_toArray, List.set_cons_zero, List.set_cons_succ]
      have zc := Cells.new w3 [.int .i64 0, .int .i64 0, .int .i64 0, .string ⟨#[]⟩] 103
      have zf : ∀ i, (w3.alloc (.cells #[.int .i64 0, .int .i64 0, .int .i64 0, .string ⟨#[]⟩] 103)).frozen? ⟨w3.heap.size, i, none⟩ = false := fun i => by simp [go_sem]
      have hb4 : Below W.heap.size W (w3.alloc (.cells #[.int .i64 0, .int .i64 0, .int .i64 0, .string ⟨#[]⟩] 103)) := hb3.alloc hb3.size _
      have hz1 : W.heap.size ≤ w3.heap.size := hb3.size
      have hz2 : w3.heap.size < (w3.alloc (.cells #[.int .i64 0, .int .i64 0, .int .i64 0, .string ⟨#[]⟩] 103)).heap.size := by simp
      clear hb3
      generalize w3.alloc (.cells #[.int .i64 0, .int .i64 0, .int .i64 0, .string ⟨#[]⟩] 103) = w4 at *
      obtain ⟨zn, hzn⟩ : ∃ z, z = w3.heap.size := ⟨_, rfl⟩
      rw [← hzn] at zc zf hz1 hz2 ⊢
      clear hzn
      have x0 := zc 0 _ rfl
      have x1 := zc 1 _ rfl
      have x2 := zc 2 _ rfl
      have x3 := zc 3 _ rfl
      simp only [Nat.zero_add] at x0 x1 x2 x3
      have y0 := zf 0
      have y1 := zf 1
      have y2 := zf 2
      have y3 := zf 3
      have ZC := Lib.hid zc; clear zc zf
      have hg4 : g ≠ zn := by omega
      have hx4 : w.heap.size ≠ zn := by omega
      have HS4 := Lib.hid (show (w4).rangeAt g 0 LS ∧ (w4).cell? ⟨w.heap.size, 2, none⟩ = some (.int .i64 r.tier) from ⟨rngL CS.out hb4 gl, (hb4.cell (p := ⟨w.heap.size, 2, none⟩) s0).trans r2⟩)
      refine wpAnyH_ready (rs := [11]) (by kernel_rfl) (by simp) ?_
      refine AllReadyH.cons (o := { dst := none, op := Op.store 103 (Operand.tmp 5) (Operand.tmp 15), type := 0, pos := "l06_manifest.go:293", after := #[{ on := 10, ground := Ground.data }, { on := 8, ground := Ground.data }, { on := 6, ground := Ground.chain }, { on := 0, ground := Ground.phase }, { on := 1, ground := Ground.phase }, { on := 2, ground := Ground.phase }, { on := 3, ground := Ground.phase }, { on := 4, ground := Ground.phase }, { on := 5, ground := Ground.phase }, { on := 6, ground := Ground.phase }, { on := 7, ground := Ground.phase }, { on := 8, ground := Ground.phase }, { on := 9, ground := Ground.textOnly Departure.lateStores }, { on := 10, ground := Ground.phase }], guard := none }) rfl (fun K hK => ?_) AllReadyH.nil
      go_simp
      refine hK.out _ _ (by exact far4R HS4.out hg4 hx4) (fun hHeld => ?_)
      clear hK K
      try simp only [Act.put, List.setIfInBounds_toArray, List.set_cons_zero, List.set_cons_succ]
      refine kT 12 ?_
      go_frame
      refine wpAnyH_done (by kernel_rfl) ?_ _
      refine NoPanic.normal ?_
      go_wp2_with fail
      go_meet
      exact ⟨zn, rfl, rfl, Lib.hid (set4R ZC.out), Lib.hid (below4R hb4 hz1 _ _ _ _), hz1, by simp only [size_setCell]; exact hz2⟩
    · go_simp
      have hbA : Below W.heap.size W ((W.alloc (.cells #[.int .i64 0, .int .i64 0, .int .i64 0, .string ⟨#[]⟩] 103)).drew) := ((Below.refl W.heap.size W).alloc (Nat.le_refl _) _).drew
      refine hK.out _ _ (by exact ⟨rngL CS.out hbA gl, (hbA.cell (p := ⟨w.heap.size, 2, none⟩) s0).trans r2⟩) (fun hHeld => ?_)
      clear hK K
      try simp only [Act.put, List.setIfInBounds_toArray, List.set_cons_zero, List.set_cons_succ]
      have zc0 : Cells ((W.alloc (.cells #[.int .i64 0, .int .i64 0, .int .i64 0, .string ⟨#[]⟩] 103)).drew) W.heap.size 0 [.int .i64 0, .int .i64 0, .int .i64 0, .string ⟨#[]⟩] := Cells.new W [.int .i64 0, .int .i64 0, .int .i64 0, .string ⟨#[]⟩] 103
      have zf0 : ∀ i, ((W.alloc (.cells #[.int .i64 0, .int .i64 0, .int .i64 0, .string ⟨#[]⟩] 103)).drew).frozen? ⟨W.heap.size, i, none⟩ = false := fun i => (free_alloc W #[.int .i64 0, .int .i64 0, .int .i64 0, .string ⟨#[]⟩] 103 0) _ rfl i
      have hz2A : W.heap.size < ((W.alloc (.cells #[.int .i64 0, .int .i64 0, .int .i64 0, .string ⟨#[]⟩] 103)).drew).heap.size := by show W.heap.size < (W.alloc (.cells #[.int .i64 0, .int .i64 0, .int .i64 0, .string ⟨#[]⟩] 103)).heap.size; simp
      generalize (W.alloc (.cells #[.int .i64 0, .int .i64 0, .int .i64 0, .string ⟨#[]⟩] 103)).drew = wA at *
      refine wpAnyH_ready (rs := [6]) (by kernel_rfl) (by simp) ?_
      refine AllReadyH.cons (o := { dst := some 14, op := Op.call { callee := Callee.value (Operand.func 120), args := #[Operand.tmp 11, Operand.tmp 13], argTypes := #[34, 3] }, type := 161, pos := "l06_manifest.go:293", after := #[{ on := 3, ground := Ground.data }, { on := 5, ground := Ground.data }], guard := none }) rfl (fun K hK => ?_) AllReadyH.nil
      go_simp
      have hqf := HF.out wA (b0.trans (hbA.mono (Nat.le_of_lt s0)))
      refine hqf.mono ?_
      rintro q w4 ⟨rfl, hb3⟩
      clear hqf
      have hb4 : Below W.heap.size W w4 := hbA.trans (hb3.mono hbA.size)
      have zc := zc0.below hb3 hz2A
      have zf : ∀ i, w4.frozen? ⟨W.heap.size, i, none⟩ = false := fun i => (hb3.frozen (p := ⟨W.heap.size, i, none⟩) hz2A).trans (zf0 i)
      have hz1 : W.heap.size ≤ W.heap.size := Nat.le_refl _
      have hz2 : W.heap.size < w4.heap.size := Nat.lt_of_lt_of_le hz2A hb3.size
      refine hK.out _ _ (by exact ⟨rngL CS.out hb4 gl, (hb4.cell (p := ⟨w.heap.size, 2, none⟩) s0).trans r2⟩) (fun hHeld => ?_)
      clear hK K zc0 zf0 hz2A hb3 hbA
      try simp only [Act.put, List.setIfInBounds_toArray, List.set_cons_zero, List.set_cons_succ]
      refine kT 7 ?_
      go_frame
      refine kT 8 ?_
      go_frame
      refine kT 9 ?_
      go_frame
      have x0 := zc 0 _ rfl
      have x1 := zc 1 _ rfl
      have x2 := zc 2 _ rfl
      have x3 := zc 3 _ rfl
      simp only [Nat.zero_add] at x0 x1 x2 x3
      have y0 := zf 0
      have y1 := zf 1
      have y2 := zf 2
      have y3 := zf 3
      have ZC := Lib.hid zc; clear zc zf
      have hg4 : g ≠ W.heap.size := Nat.ne_of_lt gl
      have hx4 : w.heap.size ≠ W.heap.size := Nat.ne_of_lt s0
      have HS4 := Lib.hid (show (w4).rangeAt g 0 LS ∧ (w4).cell? ⟨w.heap.size, 2, none⟩ = some (.int .i64 r.tier) from ⟨rngL CS.out hb4 gl, (hb4.cell (p := ⟨w.heap.size, 2, none⟩) s0).trans r2⟩)
      refine wpAnyH_ready (rs := [11]) (by kernel_rfl) (by simp) ?_
      refine AllReadyH.cons (o := { dst := none, op := Op.store 103 (Operand.tmp 5) (Operand.tmp 15), type := 0, pos := "l06_manifest.go:293", after := #[{ on := 10, ground := Ground.data }, { on := 8, ground := Ground.data }, { on := 6, ground := Ground.chain }, { on := 0, ground := Ground.phase }, { on := 1, ground := Ground.phase }, { on := 2, ground := Ground.phase }, { on := 3, ground := Ground.phase }, { on := 4, ground := Ground.phase }, { on := 5, ground := Ground.phase }, { on := 6, ground := Ground.phase }, { on := 7, ground := Ground.phase }, { on := 8, ground := Ground.phase }, { on := 9, ground := Ground.textOnly Departure.lateStores }, { on := 10, ground := Ground.phase }], guard := none }) rfl (fun K hK => ?_) AllReadyH.nil
      go_simp
      refine hK.out _ _ (by exact far4R HS4.out hg4 hx4) (fun hHeld => ?_)
      clear hK K
      try simp only [Act.put, List.setIfInBounds_toArray, List.set_cons_zero, List.set_cons_succ]
      refine kT 12 ?_
      go_frame
      refine wpAnyH_done (by kernel_rfl) ?_ _
      refine NoPanic.normal ?_
      go_wp2_with fail
      go_meet
      exact ⟨W.heap.size, rfl, rfl, Lib.hid (set4R ZC.out), Lib.hid (below4R hb4 hz1 _ _ _ _), hz1, by simp only [size_setCell]; exact hz2⟩

  case rest =>
    obtain ⟨z, rfl, rfl, HZ, HB, hz1, hz2⟩ := hcut
    have bwc : Below w.heap.size w wc := b0.trans (HB.out.mono (Nat.le_of_lt s0))
    have szc : W.heap.size ≤ wc.heap.size := HB.out.size
    have HELD : Hid (∀ w', Below wc.heap.size wc w' → (fun w' => w'.rangeAt g 0 LS ∧ w'.cell? ⟨w.heap.size, 0, none⟩ = some (.int .i64 r.kind) ∧ w'.cell? ⟨w.heap.size, 1, none⟩ = some (.int .i64 r.tok) ∧ w'.cell? ⟨w.heap.size, 2, none⟩ = some (.int .i64 r.tier) ∧ w'.cell? ⟨w.heap.size, 3, none⟩ = some (.int .i64 r.beg) ∧ w'.cell? ⟨w.heap.size, 4, none⟩ = some (.int .i64 r.fin) ∧ w'.cell? ⟨w.heap.size, 5, none⟩ = some (.string r.key) ∧ w'.cell? ⟨z, 0, none⟩ = some (.int .i64 e.tier) ∧ w'.cell? ⟨z, 1, none⟩ = some (.int .i64 e.beg) ∧ w'.cell? ⟨z, 2, none⟩ = some (.int .i64 e.fin) ∧ w'.cell? ⟨z, 3, none⟩ = some (.string e.key) ∧ w'.cell? ⟨g, 1, none⟩ = some (.int .i64 s.fe)) w') := Lib.hid (fun w' hb => by
      have h1 := (CR.out.below HB.out s0).below hb (by omega)
      have h2 := HZ.out.below hb hz2
      have h3 := (CS.out.below HB.out gl).below hb (by omega)
      have h4 := (((led10 HL.out).below b0 hgl).below HB.out gl).below hb (by omega)
      exact ⟨rngL h3 (Below.refl w'.heap.size w') (by have := hb.size; omega), by simpa using h1 0 _ rfl, by simpa using h1 1 _ rfl, by simpa using h1 2 _ rfl, by simpa using h1 3 _ rfl, by simpa using h1 4 _ rfl, by simpa using h1 5 _ rfl, by simpa using h2 0 _ rfl, by simpa using h2 1 _ rfl, by simpa using h2 2 _ rfl, by simpa using h2 3 _ rfl, by simpa using h4 1 _ rfl⟩)
    clear HZ r2
    cases so
    · have Hn : Hid (¬ TakeR s r) := Lib.hid (fun h => by have h1 := HSO.out; rw [h.2.1] at h1; cases h1)
      go_upto_region 2 with fail
      refine wp_region_noPanic ?_
      refine wp_region_held_drew (S := fun w' => w'.rangeAt g 0 LS ∧ w'.cell? ⟨w.heap.size, 0, none⟩ = some (.int .i64 r.kind) ∧ w'.cell? ⟨w.heap.size, 1, none⟩ = some (.int .i64 r.tok) ∧ w'.cell? ⟨w.heap.size, 2, none⟩ = some (.int .i64 r.tier) ∧ w'.cell? ⟨w.heap.size, 3, none⟩ = some (.int .i64 r.beg) ∧ w'.cell? ⟨w.heap.size, 4, none⟩ = some (.int .i64 r.fin) ∧ w'.cell? ⟨w.heap.size, 5, none⟩ = some (.string r.key) ∧ w'.cell? ⟨z, 0, none⟩ = some (.int .i64 e.tier) ∧ w'.cell? ⟨z, 1, none⟩ = some (.int .i64 e.beg) ∧ w'.cell? ⟨z, 2, none⟩ = some (.int .i64 e.fin) ∧ w'.cell? ⟨z, 3, none⟩ = some (.string e.key) ∧ w'.cell? ⟨g, 1, none⟩ = some (.int .i64 s.fe)) (by kernel_rfl) (by exact HELD.out _ (Below.refl _ _).drew) (fun hHeld => ?_)
      refine kT 0 ?_
      go_frame
      refine kT 1 ?_
      go_frame
      refine kS 2 ?_
      go_frame
      refine kS 3 ?_
      go_frame
      refine wpAnyH_take (i := 4) (oi := { dst := some 21, op := Op.call { callee := Callee.value (Operand.func 118), args := #[Operand.tmp 20], argTypes := #[38] }, type := 103, pos := "l06_manifest.go:294", after := #[{ on := 3, ground := Ground.data }, { on := 1, ground := Ground.chain }, { on := 1, ground := Ground.guard }], guard := some (1, true) }) (v := undef) rfl (by kernel_rfl) (by kernel_rfl) (by kernel_rfl) (fun _ _ _ h => h) (Or.inr ⟨by rfl, rfl⟩) (by assumption) ?_
      try simp only [Act.put, List.setIfInBounds_toArray, List.set_cons_zero, List.set_cons_succ]
      refine kS 5 ?_
      go_frame
      refine kT 6 ?_
      go_frame
      refine kT 7 ?_
      go_frame
      refine kS 8 ?_
      go_frame
      refine kS 9 ?_
      go_frame
      refine kS 10 ?_
      go_frame
      refine kS 11 ?_
      go_frame
      refine kS 12 ?_
      go_frame
      refine kS 13 ?_
      go_frame
      refine kS 14 ?_
      go_frame
      refine kS 15 ?_
      go_frame
      refine kT 16 ?_
      go_frame
      refine kT 17 ?_
      go_frame
      refine kS 18 ?_
      go_frame
      refine kS 19 ?_
      go_frame
      refine kS 20 ?_
      go_frame
      refine kS 21 ?_
      go_frame
      refine kS 22 ?_
      go_frame
      refine wpAnyH_take (i := 23) (oi := { dst := some 40, op := Op.call { callee := Callee.value (Operand.func 121), args := #[Operand.tmp 38, Operand.tmp 39], argTypes := #[34, 103] }, type := 4, pos := "l06_manifest.go:294", after := #[{ on := 21, ground := Ground.data }, { on := 22, ground := Ground.data }, { on := 17, ground := Ground.chain }, { on := 17, ground := Ground.guard }], guard := some (17, true) }) (v := undef) rfl (by kernel_rfl) (by kernel_rfl) (by kernel_rfl) (fun _ _ _ h => h) (Or.inr ⟨by rfl, rfl⟩) (by assumption) ?_
      try simp only [Act.put, List.setIfInBounds_toArray, List.set_cons_zero, List.set_cons_succ]
      refine kT 24 ?_
      go_frame
      refine kT 25 ?_
      go_frame
      refine wpAnyH_done (by kernel_rfl) ?_ _
      refine NoPanic.normal ?_
      clear hHeld
      go_wp2
      go_ret
      exact ⟨false, by simp [Hn.out], rfl, bwc.drew⟩
    have HFE : Hid (firstE s.ents r.tier = some e) := Lib.hid (by
      have h1 := HSO.out; have h2 := HE.out
      cases hq : firstE s.ents r.tier with
      | none => rw [hq] at h1; cases h1
      | some x => rw [hq] at h2; rw [h2]; rfl)
    have HT3 : Hid (0 ≤ e.tier ∧ e.tier ≤ 2) := Lib.hid (by
      have h1 := List.find?_some HFE.out
      have h2 : e.tier = r.tier := by simpa using h1
      omega)
    go_upto_region 2 with fail
    refine wp_region_noPanic ?_
    refine wp_region_held_drew (S := fun w' => w'.rangeAt g 0 LS ∧ w'.cell? ⟨w.heap.size, 0, none⟩ = some (.int .i64 r.kind) ∧ w'.cell? ⟨w.heap.size, 1, none⟩ = some (.int .i64 r.tok) ∧ w'.cell? ⟨w.heap.size, 2, none⟩ = some (.int .i64 r.tier) ∧ w'.cell? ⟨w.heap.size, 3, none⟩ = some (.int .i64 r.beg) ∧ w'.cell? ⟨w.heap.size, 4, none⟩ = some (.int .i64 r.fin) ∧ w'.cell? ⟨w.heap.size, 5, none⟩ = some (.string r.key) ∧ w'.cell? ⟨z, 0, none⟩ = some (.int .i64 e.tier) ∧ w'.cell? ⟨z, 1, none⟩ = some (.int .i64 e.beg) ∧ w'.cell? ⟨z, 2, none⟩ = some (.int .i64 e.fin) ∧ w'.cell? ⟨z, 3, none⟩ = some (.string e.key) ∧ w'.cell? ⟨g, 1, none⟩ = some (.int .i64 s.fe)) (by kernel_rfl) (by exact HELD.out _ (Below.refl _ _).drew) (fun hHeld => ?_)
    refine kT 0 ?_
    go_frame
    refine kT 1 ?_
    go_frame
    refine kT 2 ?_
    go_frame
    refine kT 3 ?_
    go_frame
    refine wpAnyH_ready (rs := [4]) (by kernel_rfl) (by simp) ?_
    refine AllReadyH.cons (o := { dst := some 21, op := Op.call { callee := Callee.value (Operand.func 118), args := #[Operand.tmp 20], argTypes := #[38] }, type := 103, pos := "l06_manifest.go:294", after := #[{ on := 3, ground := Ground.data }, { on := 1, ground := Ground.chain }, { on := 1, ground := Ground.guard }], guard := some (1, true) }) rfl (fun K hK => ?_) AllReadyH.nil
    go_simp
    refine (entry_any r wc.drew).mono ?_
    rintro q w5 ⟨rfl, hb5'⟩
    have hb5 : Below wc.heap.size wc w5 := (Below.refl _ _).drew.trans hb5'
    clear hb5'
    refine hK.out _ _ (by exact HELD.out _ hb5) (fun hHeld => ?_)
    clear hK K
    try simp only [Act.put, List.setIfInBounds_toArray, List.set_cons_zero, List.set_cons_succ]
    by_cases he : e = r.ent
    rotate_left
    · have ev := eqEntV e r.ent false (decide_eq_false he)
      have Hn : Hid (¬ TakeR s r) := Lib.hid (fun h => by have h1 := h.2.1; rw [HFE.out] at h1; exact he (Option.some.inj h1))
      dsimp only [GRec.ent] at ev
      clear he
      refine kT 5 ?_
      go_frame
      refine kT 6 ?_
      go_frame
      refine kT 7 ?_
      go_frame
      refine kS 8 ?_
      go_frame
      refine kS 9 ?_
      go_frame
      refine kS 10 ?_
      go_frame
      refine kS 11 ?_
      go_frame
      refine kS 12 ?_
      go_frame
      refine kS 13 ?_
      go_frame
      refine kS 14 ?_
      go_frame
      refine kS 15 ?_
      go_frame
      refine kT 16 ?_
      go_frame
      refine kT 17 ?_
      go_frame
      refine kS 18 ?_
      go_frame
      refine kS 19 ?_
      go_frame
      refine kS 20 ?_
      go_frame
      refine kS 21 ?_
      go_frame
      refine kS 22 ?_
      go_frame
      refine wpAnyH_take (i := 23) (oi := { dst := some 40, op := Op.call { callee := Callee.value (Operand.func 121), args := #[Operand.tmp 38, Operand.tmp 39], argTypes := #[34, 103] }, type := 4, pos := "l06_manifest.go:294", after := #[{ on := 21, ground := Ground.data }, { on := 22, ground := Ground.data }, { on := 17, ground := Ground.chain }, { on := 17, ground := Ground.guard }], guard := some (17, true) }) (v := undef) rfl (by kernel_rfl) (by kernel_rfl) (by kernel_rfl) (fun _ _ _ h => h) (Or.inr ⟨by rfl, rfl⟩) (by assumption) ?_
      try simp only [Act.put, List.setIfInBounds_toArray, List.set_cons_zero, List.set_cons_succ]
      refine kT 24 ?_
      go_frame
      refine kT 25 ?_
      go_frame
      refine wpAnyH_done (by kernel_rfl) ?_ _
      refine NoPanic.normal ?_
      clear hHeld
      go_wp2
      go_ret
      exact ⟨false, by simp [Hn.out], rfl, bnext bwc hb5⟩
    have ev := eqEntV e r.ent true (decide_eq_true he)
    dsimp only [GRec.ent] at ev
    have HEN := Lib.hid he; clear he
    refine kT 5 ?_
    go_frame
    refine kT 6 ?_
    go_frame
    refine kT 7 ?_
    go_frame
    refine kT 8 ?_
    go_frame
    refine kT 9 ?_
    go_frame
    refine kT 10 ?_
    go_frame
    refine kT 11 ?_
    go_frame
    refine kT 12 ?_
    go_frame
    refine kT 13 ?_
    go_frame
    refine kT 14 ?_
    go_frame
    by_cases ht2 : r.tok = s.fe
    rotate_left
    · have u2 : (r.tok == s.fe) = false := beq_false_of_ne ht2
      have Hn : Hid (¬ TakeR s r) := Lib.hid (fun h => ht2 h.1)
      clear ht2
      refine kT 15 ?_
      go_frame
      refine kT 16 ?_
      go_frame
      refine kT 17 ?_
      go_frame
      refine kS 18 ?_
      go_frame
      refine kS 19 ?_
      go_frame
      refine kS 20 ?_
      go_frame
      refine kS 21 ?_
      go_frame
      refine kS 22 ?_
      go_frame
      refine wpAnyH_take (i := 23) (oi := { dst := some 40, op := Op.call { callee := Callee.value (Operand.func 121), args := #[Operand.tmp 38, Operand.tmp 39], argTypes := #[34, 103] }, type := 4, pos := "l06_manifest.go:294", after := #[{ on := 21, ground := Ground.data }, { on := 22, ground := Ground.data }, { on := 17, ground := Ground.chain }, { on := 17, ground := Ground.guard }], guard := some (17, true) }) (v := undef) rfl (by kernel_rfl) (by kernel_rfl) (by kernel_rfl) (fun _ _ _ h => h) (Or.inr ⟨by rfl, rfl⟩) (by assumption) ?_
      try simp only [Act.put, List.setIfInBounds_toArray, List.set_cons_zero, List.set_cons_succ]
      refine kT 24 ?_
      go_frame
      refine kT 25 ?_
      go_frame
      refine wpAnyH_done (by kernel_rfl) ?_ _
      refine NoPanic.normal ?_
      clear hHeld
      go_wp2
      go_ret
      exact ⟨false, by simp [Hn.out], rfl, bnext bwc hb5⟩
    have u2 : (r.tok == s.fe) = true := by simpa using ht2
    have HTF := Lib.hid ht2; clear ht2
    refine kT 15 ?_
    go_frame
    refine kT 16 ?_
    go_frame
    refine kT 17 ?_
    go_frame
    refine kT 18 ?_
    go_frame
    refine kT 19 ?_
    go_frame
    refine kT 20 ?_
    go_frame
    refine' wpAnyH_take (i := 21) (oi := { dst := some 38, op := Op.load 34 (Operand.tmp 37), type := 34, pos := "l06_manifest.go:294", after := #[{ on := 20, ground := Ground.data }, { on := 17, ground := Ground.guard }], guard := some (17, true) }) (v := _) rfl (by kernel_rfl) (by kernel_rfl) (by kernel_rfl) (fun _ _ _ h => h) (yieldsIf_load_mid (by rfl) _ _ rfl _ _ rfl LS _ ?hSg41 ?hug41 ?hdg41 ?hig41) (by assumption) ?restg41
    case hSg41 => exact fun w hSw => hSw.1
    case hug41 => exact Tryz.underlying34
    case hdg41 => rfl
    case hig41 => exact infoStt.trans (by rw [HNS.out])
    try simp only [Act.put, List.setIfInBounds_toArray, List.set_cons_zero, List.set_cons_succ]
    refine kT 22 ?_
    go_frame
    refine wpAnyH_ready (rs := [23]) (by kernel_rfl) (by simp) ?_
    refine AllReadyH.cons (o := { dst := some 40, op := Op.call { callee := Callee.value (Operand.func 121), args := #[Operand.tmp 38, Operand.tmp 39], argTypes := #[34, 103] }, type := 4, pos := "l06_manifest.go:294", after := #[{ on := 21, ground := Ground.data }, { on := 22, ground := Ground.data }, { on := 17, ground := Ground.chain }, { on := 17, ground := Ground.guard }], guard := some (17, true) }) rfl (fun K hK => ?_) AllReadyH.nil
    go_simp
    have hqu : Calls Tryz.prog 121 #[.agg LS.toArray, .agg #[.int .i64 e.tier, .int .i64 e.beg, .int .i64 e.fin, .string e.key]] w5 (fun q w' => q = .returned (.bool (upB s e.tier.toNat e)) ∧ Below w5.heap.size w5 w') := by rw [ES.out]; exact rolledUp_any A c A2 c2 s e HT3.out w5
    refine hqu.mono ?_
    rintro q w6 ⟨rfl, hb6⟩
    clear hqu
    have hb56 : Below wc.heap.size wc w6 := hb5.trans (hb6.mono hb5.size)
    refine hK.out _ _ (by exact HELD.out _ hb56) (fun hHeld => ?_)
    clear hK K
    try simp only [Act.put, List.setIfInBounds_toArray, List.set_cons_zero, List.set_cons_succ]
    refine kT 24 ?_
    go_frame
    refine kT 25 ?_
    go_frame
    refine wpAnyH_done (by kernel_rfl) ?_ _
    refine NoPanic.normal ?_
    have Hi : Hid (upB s e.tier.toNat e = true ↔ TakeR s r) := Lib.hid (by
      have h1 := HEN.out
      have h2 := HFE.out
      have h3 : e.tier = r.tier := by rw [h1]; rfl
      constructor
      · intro h; exact ⟨HTF.out, by rw [h2, h1], by rw [← h1, ← h3]; exact h⟩
      · intro h; have := h.2.2; rw [← h1, ← h3] at this; exact this)
    clear hHeld
    go_wp2
    go_ret
    exact ⟨_, Hi.out, rfl, bnext bwc hb56⟩

end Go.Proofs.YtpfanmcjlfdaiaaGreatDoorR

/- What a ledger's records do: contracts of claim, enter, retire and purge. Conditions: the record is one that the log takes, lengths. -/
namespace Go.Proofs.YtpfanmcjlfdaiaaGreatDoorR
open Go.ChangeShapes Go.WideShapes Go.ChangeAt Go.RowKit Go.Deep Go.Joins Go.Maps
set_option linter.unusedVariables false
set_option linter.unusedSimpArgs false

/-- the ledger is one of another state, and nothing else that was there has turned -/
def DoneL (base g : Nat) (A A2 : Option Addr) (m : Nat) (w : World) (s' : GSt) (e : Ending) (w' : World) : Prop :=
  e = .returned (.tuple #[]) ∧ ∃ (A5 : Option Addr) (k5 : Nat) (A6 : Option Addr) (k6 n' : Nat), Led base g w' s' A5 k5 A6 k6 m n' ∧ LTurn g A A2 m w w' ∧ (blk A5 = blk A ∨ ∀ b, blk A5 = some b → w.heap.size ≤ b) ∧ (blk A6 = blk A2 ∨ ∀ b, blk A6 = some b → w.heap.size ≤ b)

theorem claim_any (base g : Nat) (s : GSt) (A : Option Addr) (c : Nat) (A2 : Option Addr) (c2 m n : Nat) (w : World) (hL : Led base g w s A c A2 c2 m n) (r : GRec) :
    Calls Tryz.prog 98 #[.pointer (some ⟨g, 0, none⟩), .agg #[.int .i64 r.kind, .int .i64 r.tok, .int .i64 r.tier, .int .i64 r.beg, .int .i64 r.fin, .string r.key]] w (DoneL base g A A2 m w { s with fe := r.tok }) := by
  obtain ⟨W, hW⟩ : ∃ W, W = w.alloc (.cells #[.int .i64 r.kind, .int .i64 r.tok, .int .i64 r.tier, .int .i64 r.beg, .int .i64 r.fin, .string r.key] 38) := ⟨_, rfl⟩
  have CR : Hid (Cells W w.heap.size 0 [.int .i64 r.kind, .int .i64 r.tok, .int .i64 r.tier, .int .i64 r.beg, .int .i64 r.fin, .string r.key]) := Lib.hid (by rw [hW]; exact Cells.new w _ _)
  have b0 : Below w.heap.size w W := by rw [hW]; exact bal (Below.refl _ _) _
  have s0 : w.heap.size < W.heap.size := by rw [hW]; simp
  have hgl := hL.gl
  have HF := Lib.hid (hL.toF.kept b0)
  have HLw := Lib.hid hL; clear hL
  have FIN : Hid (DoneL base g A A2 m w { s with fe := r.tok } (.returned (.tuple #[])) (W.setCell ⟨g, 1, none⟩ (.int .i64 r.tok))) := Lib.hid (by
    refine ⟨rfl, A, c, A2, c2, n, (HF.out.cell (s' := { s with fe := r.tok }) 1 (by omega) _ rfl rfl rfl (Nat.le_refl _)).toLed (fun k => keys_same rfl rfl k), ?_, .inl rfl, .inl rfl⟩
    exact (LTurn.of b0).setCell (p := ⟨g, 1, none⟩) (.inl rfl) _)
  have k1 := HF.out.cs 1 _ rfl
  have f1 := HF.out.fr 1
  have r1 := CR.out 1 _ rfl
  simp only [Nat.zero_add] at k1 r1
  have HW := Lib.hid hW; clear hW
  go_enter Tryz.func98, Tryz.ntmps98
  go_upto_region 1 with fail
  rw [← HW.out]
  go_wp2
  exact ⟨rfl, .tuple #[], by simp [results, Tryz.results98, go_sem], FIN.out⟩

theorem and_six {a b c d e f g : Prop} (h : a ∧ b ∧ c ∧ d ∧ e ∧ f) (k : g) : a ∧ b ∧ c ∧ d ∧ e ∧ f ∧ g := ⟨h.1, h.2.1, h.2.2.1, h.2.2.2.1, h.2.2.2.2.1, h.2.2.2.2.2, k⟩

set_option maxRecDepth 100000 in
set_option maxHeartbeats 4000000 in
theorem enter_any (base g : Nat) (s : GSt) (A : Option Addr) (c : Nat) (A2 : Option Addr) (c2 m n : Nat) (w : World) (hL : Led base g w s A c A2 c2 m n) (r : GRec) (ht : 0 ≤ r.tier ∧ r.tier ≤ 2) (hks : r.key.size ≤ 1048576) (hl : s.ents.length ≤ 1048576) (hn1 : n + 1 ≤ 8192 + s.sq.toNat) (hn2 : n ≤ 100000000) :
    Calls Tryz.prog 95 #[.pointer (some ⟨g, 0, none⟩), .agg #[.int .i64 r.kind, .int .i64 r.tok, .int .i64 r.tier, .int .i64 r.beg, .int .i64 r.fin, .string r.key]] w (DoneL base g A A2 m w { s with ents := s.ents ++ [r.ent], hi := s.hi.set r.tier r.fin }) := by
  obtain ⟨W, hW⟩ : ∃ W, W = w.alloc (.cells #[.int .i64 r.kind, .int .i64 r.tok, .int .i64 r.tier, .int .i64 r.beg, .int .i64 r.fin, .string r.key] 38) := ⟨_, rfl⟩
  have CR : Hid (Cells W w.heap.size 0 [.int .i64 r.kind, .int .i64 r.tok, .int .i64 r.tier, .int .i64 r.beg, .int .i64 r.fin, .string r.key]) := Lib.hid (by rw [hW]; exact Cells.new w _ _)
  have b0 : Below w.heap.size w W := by rw [hW]; exact bal (Below.refl _ _) _
  have s0 : w.heap.size < W.heap.size := by rw [hW]; simp
  have hgl := hL.gl
  have HF := Lib.hid (hL.toF.kept b0)
  have HLw := Lib.hid hL; clear hL
  obtain ⟨zs, hzs⟩ : ∃ zs, zs = s.ents ++ [r.ent] := ⟨_, rfl⟩
  have HZ := Lib.hid hzs; clear hzs
  have gl : g < W.heap.size := by omega
  have k2 := HF.out.cs 2 _ rfl
  simp only [Nat.zero_add] at k2
  have hbd : Below W.heap.size W W.drew := (Below.refl _ _).drew
  have HS : Hid (∀ w', Below W.heap.size W w' → (fun w' => w'.cell? ⟨w.heap.size, 0, none⟩ = some (.int .i64 r.kind) ∧ w'.cell? ⟨w.heap.size, 1, none⟩ = some (.int .i64 r.tok) ∧ w'.cell? ⟨w.heap.size, 2, none⟩ = some (.int .i64 r.tier) ∧ w'.cell? ⟨w.heap.size, 3, none⟩ = some (.int .i64 r.beg) ∧ w'.cell? ⟨w.heap.size, 4, none⟩ = some (.int .i64 r.fin) ∧ w'.cell? ⟨w.heap.size, 5, none⟩ = some (.string r.key)) w') := Lib.hid (fun w' hb => by
    have h1 := CR.out.below hb s0
    exact ⟨by simpa using h1 0 _ rfl, by simpa using h1 1 _ rfl, by simpa using h1 2 _ rfl, by simpa using h1 3 _ rfl, by simpa using h1 4 _ rfl, by simpa using h1 5 _ rfl⟩)
  have HSG : Hid (∀ w' w2, Below W.heap.size W w' → w'.grownBy w2 (Value.slice A s.ents.length c).ownBlock → (∀ i, blk A = some i → i ≠ w.heap.size) → (fun w' => w'.cell? ⟨w.heap.size, 0, none⟩ = some (.int .i64 r.kind) ∧ w'.cell? ⟨w.heap.size, 1, none⟩ = some (.int .i64 r.tok) ∧ w'.cell? ⟨w.heap.size, 2, none⟩ = some (.int .i64 r.tier) ∧ w'.cell? ⟨w.heap.size, 3, none⟩ = some (.int .i64 r.beg) ∧ w'.cell? ⟨w.heap.size, 4, none⟩ = some (.int .i64 r.fin) ∧ w'.cell? ⟨w.heap.size, 5, none⟩ = some (.string r.key)) w2) := Lib.hid (fun w' w2 hb hg hi => by
    have h0 : w2.heap[w.heap.size]? = w'.heap[w.heap.size]? := hg.block _ (by have := hb.size; omega) (fun e => by rw [ownBlock_blk] at e; exact hi _ e.symm rfl)
    have h1 := CR.out.below hb s0
    have h2 : Cells w2 w.heap.size 0 [.int .i64 r.kind, .int .i64 r.tok, .int .i64 r.tier, .int .i64 r.beg, .int .i64 r.fin, .string r.key] := fun j v hv => (World.cell?_of_block (a := ⟨w.heap.size, 0 + j, none⟩) h0).trans (h1 j v hv)
    exact ⟨by simpa using h2 0 _ rfl, by simpa using h2 1 _ rfl, by simpa using h2 2 _ rfl, by simpa using h2 3 _ rfl, by simpa using h2 4 _ rfl, by simpa using h2 5 _ rfl⟩)
  have HSC : Hid (∀ (w' : World) (k : Nat) (v : Value), (fun w' => w'.cell? ⟨w.heap.size, 0, none⟩ = some (.int .i64 r.kind) ∧ w'.cell? ⟨w.heap.size, 1, none⟩ = some (.int .i64 r.tok) ∧ w'.cell? ⟨w.heap.size, 2, none⟩ = some (.int .i64 r.tier) ∧ w'.cell? ⟨w.heap.size, 3, none⟩ = some (.int .i64 r.beg) ∧ w'.cell? ⟨w.heap.size, 4, none⟩ = some (.int .i64 r.fin) ∧ w'.cell? ⟨w.heap.size, 5, none⟩ = some (.string r.key)) w' → (fun w' => w'.cell? ⟨w.heap.size, 0, none⟩ = some (.int .i64 r.kind) ∧ w'.cell? ⟨w.heap.size, 1, none⟩ = some (.int .i64 r.tok) ∧ w'.cell? ⟨w.heap.size, 2, none⟩ = some (.int .i64 r.tier) ∧ w'.cell? ⟨w.heap.size, 3, none⟩ = some (.int .i64 r.beg) ∧ w'.cell? ⟨w.heap.size, 4, none⟩ = some (.int .i64 r.fin) ∧ w'.cell? ⟨w.heap.size, 5, none⟩ = some (.string r.key)) (w'.setCell ⟨g, k, none⟩ v)) := Lib.hid (fun w' k v h => by
    have hne : ∀ i, (w'.setCell ⟨g, k, none⟩ v).cell? ⟨w.heap.size, i, none⟩ = w'.cell? ⟨w.heap.size, i, none⟩ := fun i => World.cell?_setCell_other w' ⟨g, k, none⟩ ⟨w.heap.size, i, none⟩ v (fun e => by injection e with e1; omega)
    simp only [hne]
    exact h)
  have HW := Lib.hid hW; clear hW
  go_enter Tryz.func95, Tryz.ntmps95
  go_upto_region 1 with fail
  rw [← HW.out]
  go_cut [] (fun wx => ∃ (A5 : Option Addr) (k5 : Nat), Hid (LedF base g wx { s with ents := zs } A5 k5 A2 c2 m n (fun k => memB k (keysAll s))) ∧ Hid (LTurn g A A2 m w wx) ∧ Hid (blk A5 = blk A ∨ ∀ b, blk A5 = some b → w.heap.size ≤ b) ∧ Hid ((fun w' => w'.cell? ⟨w.heap.size, 0, none⟩ = some (.int .i64 r.kind) ∧ w'.cell? ⟨w.heap.size, 1, none⟩ = some (.int .i64 r.tok) ∧ w'.cell? ⟨w.heap.size, 2, none⟩ = some (.int .i64 r.tier) ∧ w'.cell? ⟨w.heap.size, 3, none⟩ = some (.int .i64 r.beg) ∧ w'.cell? ⟨w.heap.size, 4, none⟩ = some (.int .i64 r.fin) ∧ w'.cell? ⟨w.heap.size, 5, none⟩ = some (.string r.key)) wx) ∧ w.heap.size < wx.heap.size)
  case first =>
    refine wp_region_noPanic ?_
    refine wp_region_held_drew (S := fun w' => w'.cell? ⟨w.heap.size, 0, none⟩ = some (.int .i64 r.kind) ∧ w'.cell? ⟨w.heap.size, 1, none⟩ = some (.int .i64 r.tok) ∧ w'.cell? ⟨w.heap.size, 2, none⟩ = some (.int .i64 r.tier) ∧ w'.cell? ⟨w.heap.size, 3, none⟩ = some (.int .i64 r.beg) ∧ w'.cell? ⟨w.heap.size, 4, none⟩ = some (.int .i64 r.fin) ∧ w'.cell? ⟨w.heap.size, 5, none⟩ = some (.string r.key)) (by kernel_rfl) (by exact HS.out _ hbd) (fun hHeld => ?_)
    refine kT 0 ?_
    go_frame
    refine kT 1 ?_
    go_frame
    refine kT 2 ?_
    go_frame
    refine kT 3 ?_
    go_frame
    refine kT 4 ?_
    go_frame
    refine kT 6 ?_
    go_frame
    refine wpAnyH_ready (rs := [5, 7]) (by kernel_rfl) (by simp) ?_
    refine AllReadyH.cons (o := { dst := some 9, op := Op.load 31 (Operand.tmp 8), type := 31, pos := "l06_manifest.go:300", after := #[{ on := 4, ground := Ground.data }], guard := none }) rfl (fun K hK => ?_) (AllReadyH.cons (o := { dst := some 11, op := Op.call { callee := Callee.value (Operand.func 118), args := #[Operand.tmp 10], argTypes := #[38] }, type := 103, pos := "l06_manifest.go:300", after := #[{ on := 6, ground := Ground.data }], guard := none }) rfl (fun K hK => ?_) AllReadyH.nil)
    · have k2x := (hbd.cell (p := ⟨g, 2, none⟩) gl).trans k2
      go_simp
      refine hK.out _ _ (by exact HS.out _ hbd) (fun hHeld => ?_)
      clear hK K
      try simp only [Act.put, List.setIfInBounds_toArray, List.set_cons_zero, List.set_cons_succ]
      clear k2x
      refine wpAnyH_ready (rs := [7]) (by kernel_rfl) (by simp) ?_
      refine AllReadyH.cons (o := { dst := some 11, op := Op.call { callee := Callee.value (Operand.func 118), args := #[Operand.tmp 10], argTypes := #[38] }, type := 103, pos := "l06_manifest.go:300", after := #[{ on := 6, ground := Ground.data }], guard := none }) rfl (fun K hK => ?_) AllReadyH.nil
      go_simp
      refine (entry_any r W.drew).mono ?_
      rintro q w3 ⟨rfl, hb3'⟩
      have hb3 : Below W.heap.size W w3 := hbd.trans (hb3'.mono hbd.size)
      refine hK.out _ _ (by exact HS.out _ hb3) (fun hHeld => ?_)
      clear hK K hb3'
      try simp only [Act.put, List.setIfInBounds_toArray, List.set_cons_zero, List.set_cons_succ]
      refine wpAnyH_ready (rs := [8]) (by kernel_rfl) (by simp) ?_
      refine AllReadyH.cons (o := { dst := some 12, op := Op.buildSlice 31 1 #[(0, Operand.tmp 11)], type := 31, pos := "l06_manifest.go:300", after := #[{ on := 7, ground := Ground.data }], guard := none }) rfl (fun K hK => ?_) AllReadyH.nil
      go_simp
      have hb4 : Below W.heap.size W (w3.alloc (.cells #[.int .i64 r.tier, .int .i64 r.beg, .int .i64 r.fin, .string r.key] 103)) := hb3.alloc hb3.size _
      refine hK.out _ _ (by exact HS.out _ hb4) (fun hHeld => ?_)
      clear hK K
      try simp only [Act.put, List.setIfInBounds_toArray, List.set_cons_zero, List.set_cons_succ]
      have O4 : OwnSl GEnt.vals 4 103 base (w3.alloc (.cells #[.int .i64 r.tier, .int .i64 r.beg, .int .i64 r.fin, .string r.key] 103)) (.slice A s.ents.length c) s.ents := (HF.out.kept hb4).oe
      refine wpAnyH_ready (rs := [9]) (by kernel_rfl) (by simp) ?_
      refine AllReadyH.cons (o := { dst := some 13, op := Op.call { callee := Callee.builtin Builtin.append, args := #[Operand.tmp 9, Operand.tmp 12], argTypes := #[31, 31] }, type := 31, pos := "l06_manifest.go:300", after := #[{ on := 5, ground := Ground.data }, { on := 8, ground := Ground.data }, { on := 7, ground := Ground.chain }], guard := none }) rfl (fun K hK => ?_) AllReadyH.nil
      refine step_append_sl2 GEnt.vals 4 40 (fun _ => rfl) ent_oneC 31 103 _ infoEnt rfl (by omega) Tryz.underlying31 rfl _ _ rfl base s.ents [r.ent] (.slice A s.ents.length c) rfl O4 (some ⟨w3.heap.size, 0, none⟩) 1 (w3.heap.size + 1) rfl (new_entv w3 r.ent _) (by simp [maxLen]; omega) (by simp; omega) (by have := HF.out.bl; have := hb4.size; omega) ?_
      intro v5 w5 hO5 hg5 hv5
      rw [← HZ.out] at hO5
      obtain ⟨A5, k5, rfl⟩ := hO5.form
      have h4s := hb4.size
      have hgA : ∀ i, blk A = some i → i ≠ w.heap.size := fun i e => by have := (HLw.out.toF.lt1 i e).2; omega
      have HS5 : (fun w' => w'.cell? ⟨w.heap.size, 0, none⟩ = some (.int .i64 r.kind) ∧ w'.cell? ⟨w.heap.size, 1, none⟩ = some (.int .i64 r.tok) ∧ w'.cell? ⟨w.heap.size, 2, none⟩ = some (.int .i64 r.tier) ∧ w'.cell? ⟨w.heap.size, 3, none⟩ = some (.int .i64 r.beg) ∧ w'.cell? ⟨w.heap.size, 4, none⟩ = some (.int .i64 r.fin) ∧ w'.cell? ⟨w.heap.size, 5, none⟩ = some (.string r.key)) w5 := (HSG.out _ _ hb4 hg5 hgA)
      refine hK.out _ _ (by exact HS5) (fun hHeld => ?_)
      clear hK K
      try simp only [Act.put, List.setIfInBounds_toArray, List.set_cons_zero, List.set_cons_succ]
      refine kT 10 ?_
      go_frame
      refine kT 11 ?_
      go_frame
      refine kT 12 ?_
      go_frame
      rw [ownBlock_blk] at hg5
      have L6 := LedF.setEnts (HF.out.kept hb4) hg5 hO5 (by rw [ownBlock_blk, ownBlock_blk] at hv5; rcases hv5 with h | h; (· exact .inl h); (· exact .inr (fun b e => by rw [h] at e; injection e with e; omega)))
      have c5 := (World.cell?_of_block (a := ⟨g, 2, none⟩) (hg5.block g (HF.out.kept hb4).gl (fun e => (HF.out.eg e.symm)))).trans ((hb4.cell (p := ⟨g, 2, none⟩) gl).trans k2)
      have y5 := (World.frozen?_of_block (a := ⟨g, 2, none⟩) (hg5.block g (HF.out.kept hb4).gl (fun e => (HF.out.eg e.symm)))).trans ((hb4.frozen (p := ⟨g, 2, none⟩) gl).trans (HF.out.fr 2))
      have T6 : LTurn g A A2 m w (w5.setCell ⟨g, 2, none⟩ (.slice A5 zs.length k5)) := (((LTurn.of b0).next hb4).step hg5 (fun i e => .inr (.inl e))).setCell (p := ⟨g, 2, none⟩) (.inl rfl) _
      have hA6 : blk A5 = blk A ∨ ∀ b, blk A5 = some b → w.heap.size ≤ b := by rw [ownBlock_blk, ownBlock_blk] at hv5; rcases hv5 with h | h; (· exact .inl h); (· exact .inr (fun b e => by rw [h] at e; injection e with e; omega))
      have HC6 : Hid ((fun w' => w'.cell? ⟨w.heap.size, 0, none⟩ = some (.int .i64 r.kind) ∧ w'.cell? ⟨w.heap.size, 1, none⟩ = some (.int .i64 r.tok) ∧ w'.cell? ⟨w.heap.size, 2, none⟩ = some (.int .i64 r.tier) ∧ w'.cell? ⟨w.heap.size, 3, none⟩ = some (.int .i64 r.beg) ∧ w'.cell? ⟨w.heap.size, 4, none⟩ = some (.int .i64 r.fin) ∧ w'.cell? ⟨w.heap.size, 5, none⟩ = some (.string r.key)) (w5.setCell ⟨g, 2, none⟩ (.slice A5 zs.length k5))) := Lib.hid (HSC.out _ _ _ HS5)
      refine wpAnyH_ready (rs := [13]) (by kernel_rfl) (by simp) ?_
      refine AllReadyH.cons (o := { dst := none, op := Op.store 31 (Operand.tmp 16) (Operand.tmp 13), type := 0, pos := "l06_manifest.go:300", after := #[{ on := 12, ground := Ground.data }, { on := 9, ground := Ground.data }, { on := 9, ground := Ground.chain }, { on := 0, ground := Ground.phase }, { on := 1, ground := Ground.phase }, { on := 2, ground := Ground.phase }, { on := 3, ground := Ground.phase }, { on := 4, ground := Ground.phase }, { on := 5, ground := Ground.phase }, { on := 6, ground := Ground.phase }, { on := 7, ground := Ground.phase }, { on := 8, ground := Ground.phase }, { on := 9, ground := Ground.phase }], guard := none }) rfl (fun K hK => ?_) AllReadyH.nil
      go_simp
      refine hK.out _ _ (by exact HC6.out) (fun hHeld => ?_)
      clear hK K
      try simp only [Act.put, List.setIfInBounds_toArray, List.set_cons_zero, List.set_cons_succ]
      refine wpAnyH_done (by kernel_rfl) ?_ _
      refine NoPanic.normal ?_
      go_wp2_with fail
      go_meet
      exact ⟨A5, k5, Lib.hid L6, Lib.hid T6, Lib.hid hA6, HC6, by rw [size_setCell]; have := hg5.size; omega⟩
    · go_simp
      refine (entry_any r W.drew).mono ?_
      rintro q w3 ⟨rfl, hb3'⟩
      have hb3 : Below W.heap.size W w3 := hbd.trans (hb3'.mono hbd.size)
      refine hK.out _ _ (by exact HS.out _ hb3) (fun hHeld => ?_)
      clear hK K hb3'
      try simp only [Act.put, List.setIfInBounds_toArray, List.set_cons_zero, List.set_cons_succ]
      refine wpAnyH_ready (rs := [5, 8]) (by kernel_rfl) (by simp) ?_
      refine AllReadyH.cons (o := { dst := some 9, op := Op.load 31 (Operand.tmp 8), type := 31, pos := "l06_manifest.go:300", after := #[{ on := 4, ground := Ground.data }], guard := none }) rfl (fun K hK => ?_) (AllReadyH.cons (o := { dst := some 12, op := Op.buildSlice 31 1 #[(0, Operand.tmp 11)], type := 31, pos := "l06_manifest.go:300", after := #[{ on := 7, ground := Ground.data }], guard := none }) rfl (fun K hK => ?_) AllReadyH.nil)
      · have k2x := (hb3.cell (p := ⟨g, 2, none⟩) gl).trans k2
        go_simp
        refine hK.out _ _ (by exact HS.out _ hb3) (fun hHeld => ?_)
        clear hK K
        try simp only [Act.put, List.setIfInBounds_toArray, List.set_cons_zero, List.set_cons_succ]
        clear k2x
        refine wpAnyH_ready (rs := [8]) (by kernel_rfl) (by simp) ?_
        refine AllReadyH.cons (o := { dst := some 12, op := Op.buildSlice 31 1 #[(0, Operand.tmp 11)], type := 31, pos := "l06_manifest.go:300", after := #[{ on := 7, ground := Ground.data }], guard := none }) rfl (fun K hK => ?_) AllReadyH.nil
        go_simp
        have hb4 : Below W.heap.size W (w3.alloc (.cells #[.int .i64 r.tier, .int .i64 r.beg, .int .i64 r.fin, .string r.key] 103)) := hb3.alloc hb3.size _
        refine hK.out _ _ (by exact HS.out _ hb4) (fun hHeld => ?_)
        clear hK K
        try simp only [Act.put, List.setIfInBounds_toArray, List.set_cons_zero, List.set_cons_succ]
        have O4 : OwnSl GEnt.vals 4 103 base (w3.alloc (.cells #[.int .i64 r.tier, .int .i64 r.beg, .int .i64 r.fin, .string r.key] 103)) (.slice A s.ents.length c) s.ents := (HF.out.kept hb4).oe
        refine wpAnyH_ready (rs := [9]) (by kernel_rfl) (by simp) ?_
        refine AllReadyH.cons (o := { dst := some 13, op := Op.call { callee := Callee.builtin Builtin.append, args := #[Operand.tmp 9, Operand.tmp 12], argTypes := #[31, 31] }, type := 31, pos := "l06_manifest.go:300", after := #[{ on := 5, ground := Ground.data }, { on := 8, ground := Ground.data }, { on := 7, ground := Ground.chain }], guard := none }) rfl (fun K hK => ?_) AllReadyH.nil
        refine step_append_sl2 GEnt.vals 4 40 (fun _ => rfl) ent_oneC 31 103 _ infoEnt rfl (by omega) Tryz.underlying31 rfl _ _ rfl base s.ents [r.ent] (.slice A s.ents.length c) rfl O4 (some ⟨w3.heap.size, 0, none⟩) 1 (w3.heap.size + 1) rfl (new_entv w3 r.ent _) (by simp [maxLen]; omega) (by simp; omega) (by have := HF.out.bl; have := hb4.size; omega) ?_
        intro v5 w5 hO5 hg5 hv5
        rw [← HZ.out] at hO5
        obtain ⟨A5, k5, rfl⟩ := hO5.form
        have h4s := hb4.size
        have hgA : ∀ i, blk A = some i → i ≠ w.heap.size := fun i e => by have := (HLw.out.toF.lt1 i e).2; omega
        have HS5 : (fun w' => w'.cell? ⟨w.heap.size, 0, none⟩ = some (.int .i64 r.kind) ∧ w'.cell? ⟨w.heap.size, 1, none⟩ = some (.int .i64 r.tok) ∧ w'.cell? ⟨w.heap.size, 2, none⟩ = some (.int .i64 r.tier) ∧ w'.cell? ⟨w.heap.size, 3, none⟩ = some (.int .i64 r.beg) ∧ w'.cell? ⟨w.heap.size, 4, none⟩ = some (.int .i64 r.fin) ∧ w'.cell? ⟨w.heap.size, 5, none⟩ = some (.string r.key)) w5 := (HSG.out _ _ hb4 hg5 hgA)
        refine hK.out _ _ (by exact HS5) (fun hHeld => ?_)
        clear hK K
        try simp only [Act.put, List.setIfInBounds_toArray, List.set_cons_zero, List.set_cons_succ]
        refine kT 10 ?_
        go_frame
        refine kT 11 ?_
        go_frame
        refine kT 12 ?_
        go_frame
        rw [ownBlock_blk] at hg5
        have L6 := LedF.setEnts (HF.out.kept hb4) hg5 hO5 (by rw [ownBlock_blk, ownBlock_blk] at hv5; rcases hv5 with h | h; (· exact .inl h); (· exact .inr (fun b e => by rw [h] at e; injection e with e; omega)))
        have c5 := (World.cell?_of_block (a := ⟨g, 2, none⟩) (hg5.block g (HF.out.kept hb4).gl (fun e => (HF.out.eg e.symm)))).trans ((hb4.cell (p := ⟨g, 2, none⟩) gl).trans k2)
        have y5 := (World.frozen?_of_block (a := ⟨g, 2, none⟩) (hg5.block g (HF.out.kept hb4).gl (fun e => (HF.out.eg e.symm)))).trans ((hb4.frozen (p := ⟨g, 2, none⟩) gl).trans (HF.out.fr 2))
        have T6 : LTurn g A A2 m w (w5.setCell ⟨g, 2, none⟩ (.slice A5 zs.length k5)) := (((LTurn.of b0).next hb4).step hg5 (fun i e => .inr (.inl e))).setCell (p := ⟨g, 2, none⟩) (.inl rfl) _
        have hA6 : blk A5 = blk A ∨ ∀ b, blk A5 = some b → w.heap.size ≤ b := by rw [ownBlock_blk, ownBlock_blk] at hv5; rcases hv5 with h | h; (· exact .inl h); (· exact .inr (fun b e => by rw [h] at e; injection e with e; omega))
        have HC6 : Hid ((fun w' => w'.cell? ⟨w.heap.size, 0, none⟩ = some (.int .i64 r.kind) ∧ w'.cell? ⟨w.heap.size, 1, none⟩ = some (.int .i64 r.tok) ∧ w'.cell? ⟨w.heap.size, 2, none⟩ = some (.int .i64 r.tier) ∧ w'.cell? ⟨w.heap.size, 3, none⟩ = some (.int .i64 r.beg) ∧ w'.cell? ⟨w.heap.size, 4, none⟩ = some (.int .i64 r.fin) ∧ w'.cell? ⟨w.heap.size, 5, none⟩ = some (.string r.key)) (w5.setCell ⟨g, 2, none⟩ (.slice A5 zs.length k5))) := Lib.hid (HSC.out _ _ _ HS5)
        refine wpAnyH_ready (rs := [13]) (by kernel_rfl) (by simp) ?_
        refine AllReadyH.cons (o := { dst := none, op := Op.store 31 (Operand.tmp 16) (Operand.tmp 13), type := 0, pos := "l06_manifest.go:300", after := #[{ on := 12, ground := Ground.data }, { on := 9, ground := Ground.data }, { on := 9, ground := Ground.chain }, { on := 0, ground := Ground.phase }, { on := 1, ground := Ground.phase }, { on := 2, ground := Ground.phase }, { on := 3, ground := Ground.phase }, { on := 4, ground := Ground.phase }, { on := 5, ground := Ground.phase }, { on := 6, ground := Ground.phase }, { on := 7, ground := Ground.phase }, { on := 8, ground := Ground.phase }, { on := 9, ground := Ground.phase }], guard := none }) rfl (fun K hK => ?_) AllReadyH.nil
        go_simp
        refine hK.out _ _ (by exact HC6.out) (fun hHeld => ?_)
        clear hK K
        try simp only [Act.put, List.setIfInBounds_toArray, List.set_cons_zero, List.set_cons_succ]
        refine wpAnyH_done (by kernel_rfl) ?_ _
        refine NoPanic.normal ?_
        go_wp2_with fail
        go_meet
        exact ⟨A5, k5, Lib.hid L6, Lib.hid T6, Lib.hid hA6, HC6, by rw [size_setCell]; have := hg5.size; omega⟩
      · go_simp
        have hb4 : Below W.heap.size W (w3.alloc (.cells #[.int .i64 r.tier, .int .i64 r.beg, .int .i64 r.fin, .string r.key] 103)) := hb3.alloc hb3.size _
        refine hK.out _ _ (by exact HS.out _ hb4) (fun hHeld => ?_)
        clear hK K
        try simp only [Act.put, List.setIfInBounds_toArray, List.set_cons_zero, List.set_cons_succ]
        refine wpAnyH_ready (rs := [5]) (by kernel_rfl) (by simp) ?_
        refine AllReadyH.cons (o := { dst := some 9, op := Op.load 31 (Operand.tmp 8), type := 31, pos := "l06_manifest.go:300", after := #[{ on := 4, ground := Ground.data }], guard := none }) rfl (fun K hK => ?_) AllReadyH.nil
        have k2x := (hb4.cell (p := ⟨g, 2, none⟩) gl).trans k2
        go_simp
        refine hK.out _ _ (by exact HS.out _ hb4) (fun hHeld => ?_)
        clear hK K
        try simp only [Act.put, List.setIfInBounds_toArray, List.set_cons_zero, List.set_cons_succ]
        clear k2x
        have O4 : OwnSl GEnt.vals 4 103 base (w3.alloc (.cells #[.int .i64 r.tier, .int .i64 r.beg, .int .i64 r.fin, .string r.key] 103)) (.slice A s.ents.length c) s.ents := (HF.out.kept hb4).oe
        refine wpAnyH_ready (rs := [9]) (by kernel_rfl) (by simp) ?_
        refine AllReadyH.cons (o := { dst := some 13, op := Op.call { callee := Callee.builtin Builtin.append, args := #[Operand.tmp 9, Operand.tmp 12], argTypes := #[31, 31] }, type := 31, pos := "l06_manifest.go:300", after := #[{ on := 5, ground := Ground.data }, { on := 8, ground := Ground.data }, { on := 7, ground := Ground.chain }], guard := none }) rfl (fun K hK => ?_) AllReadyH.nil
        refine step_append_sl2 GEnt.vals 4 40 (fun _ => rfl) ent_oneC 31 103 _ infoEnt rfl (by omega) Tryz.underlying31 rfl _ _ rfl base s.ents [r.ent] (.slice A s.ents.length c) rfl O4 (some ⟨w3.heap.size, 0, none⟩) 1 (w3.heap.size + 1) rfl (new_entv w3 r.ent _) (by simp [maxLen]; omega) (by simp; omega) (by have := HF.out.bl; have := hb4.size; omega) ?_
        intro v5 w5 hO5 hg5 hv5
        rw [← HZ.out] at hO5
        obtain ⟨A5, k5, rfl⟩ := hO5.form
        have h4s := hb4.size
        have hgA : ∀ i, blk A = some i → i ≠ w.heap.size := fun i e => by have := (HLw.out.toF.lt1 i e).2; omega
        have HS5 : (fun w' => w'.cell? ⟨w.heap.size, 0, none⟩ = some (.int .i64 r.kind) ∧ w'.cell? ⟨w.heap.size, 1, none⟩ = some (.int .i64 r.tok) ∧ w'.cell? ⟨w.heap.size, 2, none⟩ = some (.int .i64 r.tier) ∧ w'.cell? ⟨w.heap.size, 3, none⟩ = some (.int .i64 r.beg) ∧ w'.cell? ⟨w.heap.size, 4, none⟩ = some (.int .i64 r.fin) ∧ w'.cell? ⟨w.heap.size, 5, none⟩ = some (.string r.key)) w5 := (HSG.out _ _ hb4 hg5 hgA)
        refine hK.out _ _ (by exact HS5) (fun hHeld => ?_)
        clear hK K
        try simp only [Act.put, List.setIfInBounds_toArray, List.set_cons_zero, List.set_cons_succ]
        refine kT 10 ?_
        go_frame
        refine kT 11 ?_
        go_frame
        refine kT 12 ?_
        go_frame
        rw [ownBlock_blk] at hg5
        have L6 := LedF.setEnts (HF.out.kept hb4) hg5 hO5 (by rw [ownBlock_blk, ownBlock_blk] at hv5; rcases hv5 with h | h; (· exact .inl h); (· exact .inr (fun b e => by rw [h] at e; injection e with e; omega)))
        have c5 := (World.cell?_of_block (a := ⟨g, 2, none⟩) (hg5.block g (HF.out.kept hb4).gl (fun e => (HF.out.eg e.symm)))).trans ((hb4.cell (p := ⟨g, 2, none⟩) gl).trans k2)
        have y5 := (World.frozen?_of_block (a := ⟨g, 2, none⟩) (hg5.block g (HF.out.kept hb4).gl (fun e => (HF.out.eg e.symm)))).trans ((hb4.frozen (p := ⟨g, 2, none⟩) gl).trans (HF.out.fr 2))
        have T6 : LTurn g A A2 m w (w5.setCell ⟨g, 2, none⟩ (.slice A5 zs.length k5)) := (((LTurn.of b0).next hb4).step hg5 (fun i e => .inr (.inl e))).setCell (p := ⟨g, 2, none⟩) (.inl rfl) _
        have hA6 : blk A5 = blk A ∨ ∀ b, blk A5 = some b → w.heap.size ≤ b := by rw [ownBlock_blk, ownBlock_blk] at hv5; rcases hv5 with h | h; (· exact .inl h); (· exact .inr (fun b e => by rw [h] at e; injection e with e; omega))
        have HC6 : Hid ((fun w' => w'.cell? ⟨w.heap.size, 0, none⟩ = some (.int .i64 r.kind) ∧ w'.cell? ⟨w.heap.size, 1, none⟩ = some (.int .i64 r.tok) ∧ w'.cell? ⟨w.heap.size, 2, none⟩ = some (.int .i64 r.tier) ∧ w'.cell? ⟨w.heap.size, 3, none⟩ = some (.int .i64 r.beg) ∧ w'.cell? ⟨w.heap.size, 4, none⟩ = some (.int .i64 r.fin) ∧ w'.cell? ⟨w.heap.size, 5, none⟩ = some (.string r.key)) (w5.setCell ⟨g, 2, none⟩ (.slice A5 zs.length k5))) := Lib.hid (HSC.out _ _ _ HS5)
        refine wpAnyH_ready (rs := [13]) (by kernel_rfl) (by simp) ?_
        refine AllReadyH.cons (o := { dst := none, op := Op.store 31 (Operand.tmp 16) (Operand.tmp 13), type := 0, pos := "l06_manifest.go:300", after := #[{ on := 12, ground := Ground.data }, { on := 9, ground := Ground.data }, { on := 9, ground := Ground.chain }, { on := 0, ground := Ground.phase }, { on := 1, ground := Ground.phase }, { on := 2, ground := Ground.phase }, { on := 3, ground := Ground.phase }, { on := 4, ground := Ground.phase }, { on := 5, ground := Ground.phase }, { on := 6, ground := Ground.phase }, { on := 7, ground := Ground.phase }, { on := 8, ground := Ground.phase }, { on := 9, ground := Ground.phase }], guard := none }) rfl (fun K hK => ?_) AllReadyH.nil
        go_simp
        refine hK.out _ _ (by exact HC6.out) (fun hHeld => ?_)
        clear hK K
        try simp only [Act.put, List.setIfInBounds_toArray, List.set_cons_zero, List.set_cons_succ]
        refine wpAnyH_done (by kernel_rfl) ?_ _
        refine NoPanic.normal ?_
        go_wp2_with fail
        go_meet
        exact ⟨A5, k5, Lib.hid L6, Lib.hid T6, Lib.hid hA6, HC6, by rw [size_setCell]; have := hg5.size; omega⟩
  case rest =>
    obtain ⟨A5, k5, L6, T6, hA6, HC, hlt⟩ := hcut
    have HSM : Hid (∀ w' w2 : World, w.heap.size < w'.heap.size → w'.grownBy w2 (some m) → (fun w' => w'.cell? ⟨w.heap.size, 0, none⟩ = some (.int .i64 r.kind) ∧ w'.cell? ⟨w.heap.size, 1, none⟩ = some (.int .i64 r.tok) ∧ w'.cell? ⟨w.heap.size, 2, none⟩ = some (.int .i64 r.tier) ∧ w'.cell? ⟨w.heap.size, 3, none⟩ = some (.int .i64 r.beg) ∧ w'.cell? ⟨w.heap.size, 4, none⟩ = some (.int .i64 r.fin) ∧ w'.cell? ⟨w.heap.size, 5, none⟩ = some (.string r.key)) w' → (fun w' => w'.cell? ⟨w.heap.size, 0, none⟩ = some (.int .i64 r.kind) ∧ w'.cell? ⟨w.heap.size, 1, none⟩ = some (.int .i64 r.tok) ∧ w'.cell? ⟨w.heap.size, 2, none⟩ = some (.int .i64 r.tier) ∧ w'.cell? ⟨w.heap.size, 3, none⟩ = some (.int .i64 r.beg) ∧ w'.cell? ⟨w.heap.size, 4, none⟩ = some (.int .i64 r.fin) ∧ w'.cell? ⟨w.heap.size, 5, none⟩ = some (.string r.key)) w2) := Lib.hid (fun w' w2 hs hg h => by
      have hml := HLw.out.mp.lt
      have h0 : ∀ i, w2.cell? ⟨w.heap.size, i, none⟩ = w'.cell? ⟨w.heap.size, i, none⟩ := fun i => World.cell?_of_block (a := ⟨w.heap.size, i, none⟩) (hg.block w.heap.size hs (fun e => absurd (show w.heap.size = m by injection e) (by omega)))
      simp only [h0]
      exact h)
    clear CR HS HSG k2 hbd
    obtain ⟨kd, tk, ti, bg, fi, ky⟩ := r
    dsimp only at *
    rcases (show ti = 0 ∨ ti = 1 ∨ ti = 2 by omega) with rfl | rfl | rfl
    · go_upto_region 2 with fail
      have kx := L6.out.cs 7 _ rfl
      have fx := L6.out.fr 7
      simp only [Nat.zero_add] at kx
      have L7 := Lib.hid (LedF.kept (L6.out.cell (s' := { sq := s.sq, fe := s.fe, ents := zs, tmbs := s.tmbs, lo := s.lo, hi := ⟨fi, s.hi.b, s.hi.c⟩ }) 7 (by omega) (.int .i64 fi) rfl rfl rfl (Nat.le_refl _)) ((Below.refl _ _).drew))
      have T7 := Lib.hid ((T6.out.setCell (p := ⟨g, 7, none⟩) (.inl rfl) (.int .i64 fi)).next ((Below.refl _ _).drew))
      have HC7 : Hid ((fun w' => w'.cell? ⟨w.heap.size, 0, none⟩ = some (.int .i64 kd) ∧ w'.cell? ⟨w.heap.size, 1, none⟩ = some (.int .i64 tk) ∧ w'.cell? ⟨w.heap.size, 2, none⟩ = some (.int .i64 0) ∧ w'.cell? ⟨w.heap.size, 3, none⟩ = some (.int .i64 bg) ∧ w'.cell? ⟨w.heap.size, 4, none⟩ = some (.int .i64 fi) ∧ w'.cell? ⟨w.heap.size, 5, none⟩ = some (.string ky)) (wc.setCell ⟨g, 7, none⟩ (.int .i64 fi)).drew) := Lib.hid (HSC.out wc 7 (.int .i64 fi) HC.out)
      refine wp_region_noPanic ?_
      refine wp_region_held_drew (S := fun w' => w'.cell? ⟨w.heap.size, 0, none⟩ = some (.int .i64 kd) ∧ w'.cell? ⟨w.heap.size, 1, none⟩ = some (.int .i64 tk) ∧ w'.cell? ⟨w.heap.size, 2, none⟩ = some (.int .i64 0) ∧ w'.cell? ⟨w.heap.size, 3, none⟩ = some (.int .i64 bg) ∧ w'.cell? ⟨w.heap.size, 4, none⟩ = some (.int .i64 fi) ∧ w'.cell? ⟨w.heap.size, 5, none⟩ = some (.string ky)) (by kernel_rfl) (by exact HC.out) (fun hHeld => ?_)
      refine kT 0 ?_
      go_frame
      refine kT 1 ?_
      go_frame
      refine kT 2 ?_
      go_frame
      refine kT 3 ?_
      go_frame
      refine kT 4 ?_
      go_frame
      refine kT 5 ?_
      go_frame
      refine kT 6 ?_
      go_frame
      refine kT 7 ?_
      go_frame
      refine kT 8 ?_
      go_frame
      refine wpAnyH_ready (rs := [9]) (by kernel_rfl) (by simp) ?_
      refine AllReadyH.cons (o := { dst := none, op := Op.store 3 (Operand.tmp 25) (Operand.tmp 21), type := 0, pos := "l06_manifest.go:301", after := #[{ on := 8, ground := Ground.data }, { on := 4, ground := Ground.data }, { on := 0, ground := Ground.phase }, { on := 1, ground := Ground.phase }, { on := 2, ground := Ground.phase }, { on := 3, ground := Ground.phase }, { on := 4, ground := Ground.phase }], guard := none }) rfl (fun K hK => ?_) AllReadyH.nil
      go_simp
      refine hK.out _ _ (by exact HC7.out) (fun hHeld => ?_)
      clear hK K
      try simp only [Act.put, List.setIfInBounds_toArray, List.set_cons_zero, List.set_cons_succ]
      refine wpAnyH_done (by kernel_rfl) ?_ _
      refine NoPanic.normal ?_
      clear hHeld kx fx L6 T6 HC
      have h6l : w.heap.size < ((wc.setCell ⟨g, 7, none⟩ (.int .i64 fi)).drew).heap.size := by show w.heap.size < (wc.setCell ⟨g, 7, none⟩ (.int .i64 fi)).heap.size; rw [size_setCell]; exact hlt
      generalize (wc.setCell ⟨g, 7, none⟩ (.int .i64 fi)).drew = w6 at *
      have hml := L7.out.mp.lt
      obtain ⟨w7, hrun, hm7, hg7⟩ := TxtFn.put (show TxtFn w6.drew m n (fun k => memB k (keysAll s)) from L7.out.mp) (by unfold maxLen; omega) (k := ky) (by unfold maxLen; omega)
      have hg7' : w6.grownBy w7 (some m) := ⟨hg7.os, hg7.tape, hg7.output, hg7.size, hg7.block⟩
      have k10 := L7.out.cs 10 _ rfl
      simp only [Nat.zero_add] at k10
      have HC8 : Hid ((fun w' => w'.cell? ⟨w.heap.size, 0, none⟩ = some (.int .i64 kd) ∧ w'.cell? ⟨w.heap.size, 1, none⟩ = some (.int .i64 tk) ∧ w'.cell? ⟨w.heap.size, 2, none⟩ = some (.int .i64 0) ∧ w'.cell? ⟨w.heap.size, 3, none⟩ = some (.int .i64 bg) ∧ w'.cell? ⟨w.heap.size, 4, none⟩ = some (.int .i64 fi) ∧ w'.cell? ⟨w.heap.size, 5, none⟩ = some (.string ky)) w7) := Lib.hid (HSM.out w6 w7 h6l hg7' HC7.out)
      have L8 := LedF.setMap L7.out hg7' hm7 (by show n + 1 ≤ 8192 + s.sq.toNat; exact hn1)
      have T8 := T7.out.step hg7' (fun i e => .inr (.inr (.inr (.inl (by injection e with e; exact e.symm)))))
      have FIN : Hid (DoneL base g A A2 m w { s with ents := s.ents ++ [GRec.ent ⟨kd, tk, 0, bg, fi, ky⟩], hi := s.hi.set 0 fi } (.returned (.tuple #[])) w7) := Lib.hid (by
        have hz := HZ.out
        have e1 : ({ s with ents := s.ents ++ [GRec.ent ⟨kd, tk, 0, bg, fi, ky⟩], hi := s.hi.set 0 fi } : GSt) = { sq := s.sq, fe := s.fe, ents := zs, tmbs := s.tmbs, lo := s.lo, hi := ⟨fi, s.hi.b, s.hi.c⟩ } := by rw [← hz]; rfl
        rw [e1]
        exact ⟨rfl, A5, k5, A2, c2, n + 1, L8.toLed (fun k => by have := keys_enter (s := s) (s' := { sq := s.sq, fe := s.fe, ents := zs, tmbs := s.tmbs, lo := s.lo, hi := ⟨fi, s.hi.b, s.hi.c⟩ }) (e := GRec.ent ⟨kd, tk, 0, bg, fi, ky⟩) hz rfl k; exact this), T8, hA6.out, .inl rfl⟩)
      clear L8 T8 hm7 hg7
      go_upto_region 3 with fail
      refine wp_region_noPanic ?_
      refine wp_region_held_drew (S := fun w' => w'.cell? ⟨w.heap.size, 0, none⟩ = some (.int .i64 kd) ∧ w'.cell? ⟨w.heap.size, 1, none⟩ = some (.int .i64 tk) ∧ w'.cell? ⟨w.heap.size, 2, none⟩ = some (.int .i64 0) ∧ w'.cell? ⟨w.heap.size, 3, none⟩ = some (.int .i64 bg) ∧ w'.cell? ⟨w.heap.size, 4, none⟩ = some (.int .i64 fi) ∧ w'.cell? ⟨w.heap.size, 5, none⟩ = some (.string ky) ∧ w'.cell? ⟨g, 10, none⟩ = some (.map (some m))) (by kernel_rfl) (by exact (and_six HC7.out k10)) (fun hHeld => ?_)
      refine kT 0 ?_
      go_frame
      refine kT 1 ?_
      go_frame
      refine kT 2 ?_
      go_frame
      refine kT 3 ?_
      go_frame
      refine kT 4 ?_
      go_frame
      refine kT 5 ?_
      go_frame
      refine wpAnyH_ready (rs := [6]) (by kernel_rfl) (by simp) ?_
      refine AllReadyH.cons (o := { dst := none, op := Op.mapUpdate 71 (Operand.tmp 29) (Operand.tmp 31) (Operand.const (Value.bool true)), type := 0, pos := "l06_manifest.go:302", after := #[{ on := 3, ground := Ground.data }, { on := 5, ground := Ground.data }, { on := 0, ground := Ground.phase }, { on := 1, ground := Ground.phase }, { on := 2, ground := Ground.phase }, { on := 3, ground := Ground.phase }, { on := 4, ground := Ground.phase }, { on := 5, ground := Ground.phase }], guard := none }) rfl (fun K hK => ?_) AllReadyH.nil
      go_simp
      refine hK.out _ _ (by exact (and_six HC8.out ((World.cell?_of_block (a := ⟨g, 10, none⟩) (hg7'.block g L7.out.gl (fun e => L7.out.mg (by injection e with e; exact e.symm)))).trans k10))) (fun hHeld => ?_)
      clear hK K
      try simp only [Act.put, List.setIfInBounds_toArray, List.set_cons_zero, List.set_cons_succ]
      refine wpAnyH_done (by kernel_rfl) ?_ _
      refine NoPanic.normal ?_
      clear hHeld
      go_wp2
      exact ⟨rfl, .tuple #[], by simp [results, Tryz.results95, go_sem], FIN.out⟩
    · go_upto_region 2 with fail
      have kx := L6.out.cs 8 _ rfl
      have fx := L6.out.fr 8
      simp only [Nat.zero_add] at kx
      have L7 := Lib.hid (LedF.kept (L6.out.cell (s' := { sq := s.sq, fe := s.fe, ents := zs, tmbs := s.tmbs, lo := s.lo, hi := ⟨s.hi.a, fi, s.hi.c⟩ }) 8 (by omega) (.int .i64 fi) rfl rfl rfl (Nat.le_refl _)) ((Below.refl _ _).drew))
      have T7 := Lib.hid ((T6.out.setCell (p := ⟨g, 8, none⟩) (.inl rfl) (.int .i64 fi)).next ((Below.refl _ _).drew))
      have HC7 : Hid ((fun w' => w'.cell? ⟨w.heap.size, 0, none⟩ = some (.int .i64 kd) ∧ w'.cell? ⟨w.heap.size, 1, none⟩ = some (.int .i64 tk) ∧ w'.cell? ⟨w.heap.size, 2, none⟩ = some (.int .i64 1) ∧ w'.cell? ⟨w.heap.size, 3, none⟩ = some (.int .i64 bg) ∧ w'.cell? ⟨w.heap.size, 4, none⟩ = some (.int .i64 fi) ∧ w'.cell? ⟨w.heap.size, 5, none⟩ = some (.string ky)) (wc.setCell ⟨g, 8, none⟩ (.int .i64 fi)).drew) := Lib.hid (HSC.out wc 8 (.int .i64 fi) HC.out)
      refine wp_region_noPanic ?_
      refine wp_region_held_drew (S := fun w' => w'.cell? ⟨w.heap.size, 0, none⟩ = some (.int .i64 kd) ∧ w'.cell? ⟨w.heap.size, 1, none⟩ = some (.int .i64 tk) ∧ w'.cell? ⟨w.heap.size, 2, none⟩ = some (.int .i64 1) ∧ w'.cell? ⟨w.heap.size, 3, none⟩ = some (.int .i64 bg) ∧ w'.cell? ⟨w.heap.size, 4, none⟩ = some (.int .i64 fi) ∧ w'.cell? ⟨w.heap.size, 5, none⟩ = some (.string ky)) (by kernel_rfl) (by exact HC.out) (fun hHeld => ?_)
      refine kT 0 ?_
      go_frame
      refine kT 1 ?_
      go_frame
      refine kT 2 ?_
      go_frame
      refine kT 3 ?_
      go_frame
      refine kT 4 ?_
      go_frame
      refine kT 5 ?_
      go_frame
      refine kT 6 ?_
      go_frame
      refine kT 7 ?_
      go_frame
      refine kT 8 ?_
      go_frame
      refine wpAnyH_ready (rs := [9]) (by kernel_rfl) (by simp) ?_
      refine AllReadyH.cons (o := { dst := none, op := Op.store 3 (Operand.tmp 25) (Operand.tmp 21), type := 0, pos := "l06_manifest.go:301", after := #[{ on := 8, ground := Ground.data }, { on := 4, ground := Ground.data }, { on := 0, ground := Ground.phase }, { on := 1, ground := Ground.phase }, { on := 2, ground := Ground.phase }, { on := 3, ground := Ground.phase }, { on := 4, ground := Ground.phase }], guard := none }) rfl (fun K hK => ?_) AllReadyH.nil
      go_simp
      refine hK.out _ _ (by exact HC7.out) (fun hHeld => ?_)
      clear hK K
      try simp only [Act.put, List.setIfInBounds_toArray, List.set_cons_zero, List.set_cons_succ]
      refine wpAnyH_done (by kernel_rfl) ?_ _
      refine NoPanic.normal ?_
      clear hHeld kx fx L6 T6 HC
      have h6l : w.heap.size < ((wc.setCell ⟨g, 8, none⟩ (.int .i64 fi)).drew).heap.size := by show w.heap.size < (wc.setCell ⟨g, 8, none⟩ (.int .i64 fi)).heap.size; rw [size_setCell]; exact hlt
      generalize (wc.setCell ⟨g, 8, none⟩ (.int .i64 fi)).drew = w6 at *
      have hml := L7.out.mp.lt
      obtain ⟨w7, hrun, hm7, hg7⟩ := TxtFn.put (show TxtFn w6.drew m n (fun k => memB k (keysAll s)) from L7.out.mp) (by unfold maxLen; omega) (k := ky) (by unfold maxLen; omega)
      have hg7' : w6.grownBy w7 (some m) := ⟨hg7.os, hg7.tape, hg7.output, hg7.size, hg7.block⟩
      have k10 := L7.out.cs 10 _ rfl
      simp only [Nat.zero_add] at k10
      have HC8 : Hid ((fun w' => w'.cell? ⟨w.heap.size, 0, none⟩ = some (.int .i64 kd) ∧ w'.cell? ⟨w.heap.size, 1, none⟩ = some (.int .i64 tk) ∧ w'.cell? ⟨w.heap.size, 2, none⟩ = some (.int .i64 1) ∧ w'.cell? ⟨w.heap.size, 3, none⟩ = some (.int .i64 bg) ∧ w'.cell? ⟨w.heap.size, 4, none⟩ = some (.int .i64 fi) ∧ w'.cell? ⟨w.heap.size, 5, none⟩ = some (.string ky)) w7) := Lib.hid (HSM.out w6 w7 h6l hg7' HC7.out)
      have L8 := LedF.setMap L7.out hg7' hm7 (by show n + 1 ≤ 8192 + s.sq.toNat; exact hn1)
      have T8 := T7.out.step hg7' (fun i e => .inr (.inr (.inr (.inl (by injection e with e; exact e.symm)))))
      have FIN : Hid (DoneL base g A A2 m w { s with ents := s.ents ++ [GRec.ent ⟨kd, tk, 1, bg, fi, ky⟩], hi := s.hi.set 1 fi } (.returned (.tuple #[])) w7) := Lib.hid (by
        have hz := HZ.out
        have e1 : ({ s with ents := s.ents ++ [GRec.ent ⟨kd, tk, 1, bg, fi, ky⟩], hi := s.hi.set 1 fi } : GSt) = { sq := s.sq, fe := s.fe, ents := zs, tmbs := s.tmbs, lo := s.lo, hi := ⟨s.hi.a, fi, s.hi.c⟩ } := by rw [← hz]; rfl
        rw [e1]
        exact ⟨rfl, A5, k5, A2, c2, n + 1, L8.toLed (fun k => by have := keys_enter (s := s) (s' := { sq := s.sq, fe := s.fe, ents := zs, tmbs := s.tmbs, lo := s.lo, hi := ⟨s.hi.a, fi, s.hi.c⟩ }) (e := GRec.ent ⟨kd, tk, 1, bg, fi, ky⟩) hz rfl k; exact this), T8, hA6.out, .inl rfl⟩)
      clear L8 T8 hm7 hg7
      go_upto_region 3 with fail
      refine wp_region_noPanic ?_
      refine wp_region_held_drew (S := fun w' => w'.cell? ⟨w.heap.size, 0, none⟩ = some (.int .i64 kd) ∧ w'.cell? ⟨w.heap.size, 1, none⟩ = some (.int .i64 tk) ∧ w'.cell? ⟨w.heap.size, 2, none⟩ = some (.int .i64 1) ∧ w'.cell? ⟨w.heap.size, 3, none⟩ = some (.int .i64 bg) ∧ w'.cell? ⟨w.heap.size, 4, none⟩ = some (.int .i64 fi) ∧ w'.cell? ⟨w.heap.size, 5, none⟩ = some (.string ky) ∧ w'.cell? ⟨g, 10, none⟩ = some (.map (some m))) (by kernel_rfl) (by exact (and_six HC7.out k10)) (fun hHeld => ?_)
      refine kT 0 ?_
      go_frame
      refine kT 1 ?_
      go_frame
      refine kT 2 ?_
      go_frame
      refine kT 3 ?_
      go_frame
      refine kT 4 ?_
      go_frame
      refine kT 5 ?_
      go_frame
      refine wpAnyH_ready (rs := [6]) (by kernel_rfl) (by simp) ?_
      refine AllReadyH.cons (o := { dst := none, op := Op.mapUpdate 71 (Operand.tmp 29) (Operand.tmp 31) (Operand.const (Value.bool true)), type := 0, pos := "l06_manifest.go:302", after := #[{ on := 3, ground := Ground.data }, { on := 5, ground := Ground.data }, { on := 0, ground := Ground.phase }, { on := 1, ground := Ground.phase }, { on := 2, ground := Ground.phase }, { on := 3, ground := Ground.phase }, { on := 4, ground := Ground.phase }, { on := 5, ground := Ground.phase }], guard := none }) rfl (fun K hK => ?_) AllReadyH.nil
      go_simp
      refine hK.out _ _ (by exact (and_six HC8.out ((World.cell?_of_block (a := ⟨g, 10, none⟩) (hg7'.block g L7.out.gl (fun e => L7.out.mg (by injection e with e; exact e.symm)))).trans k10))) (fun hHeld => ?_)
      clear hK K
      try simp only [Act.put, List.setIfInBounds_toArray, List.set_cons_zero, List.set_cons_succ]
      refine wpAnyH_done (by kernel_rfl) ?_ _
      refine NoPanic.normal ?_
      clear hHeld
      go_wp2
      exact ⟨rfl, .tuple #[], by simp [results, Tryz.results95, go_sem], FIN.out⟩
    · go_upto_region 2 with fail
      have kx := L6.out.cs 9 _ rfl
      have fx := L6.out.fr 9
      simp only [Nat.zero_add] at kx
      have L7 := Lib.hid (LedF.kept (L6.out.cell (s' := { sq := s.sq, fe := s.fe, ents := zs, tmbs := s.tmbs, lo := s.lo, hi := ⟨s.hi.a, s.hi.b, fi⟩ }) 9 (by omega) (.int .i64 fi) rfl rfl rfl (Nat.le_refl _)) ((Below.refl _ _).drew))
      have T7 := Lib.hid ((T6.out.setCell (p := ⟨g, 9, none⟩) (.inl rfl) (.int .i64 fi)).next ((Below.refl _ _).drew))
      have HC7 : Hid ((fun w' => w'.cell? ⟨w.heap.size, 0, none⟩ = some (.int .i64 kd) ∧ w'.cell? ⟨w.heap.size, 1, none⟩ = some (.int .i64 tk) ∧ w'.cell? ⟨w.heap.size, 2, none⟩ = some (.int .i64 2) ∧ w'.cell? ⟨w.heap.size, 3, none⟩ = some (.int .i64 bg) ∧ w'.cell? ⟨w.heap.size, 4, none⟩ = some (.int .i64 fi) ∧ w'.cell? ⟨w.heap.size, 5, none⟩ = some (.string ky)) (wc.setCell ⟨g, 9, none⟩ (.int .i64 fi)).drew) := Lib.hid (HSC.out wc 9 (.int .i64 fi) HC.out)
      refine wp_region_noPanic ?_
      refine wp_region_held_drew (S := fun w' => w'.cell? ⟨w.heap.size, 0, none⟩ = some (.int .i64 kd) ∧ w'.cell? ⟨w.heap.size, 1, none⟩ = some (.int .i64 tk) ∧ w'.cell? ⟨w.heap.size, 2, none⟩ = some (.int .i64 2) ∧ w'.cell? ⟨w.heap.size, 3, none⟩ = some (.int .i64 bg) ∧ w'.cell? ⟨w.heap.size, 4, none⟩ = some (.int .i64 fi) ∧ w'.cell? ⟨w.heap.size, 5, none⟩ = some (.string ky)) (by kernel_rfl) (by exact HC.out) (fun hHeld => ?_)
      refine kT 0 ?_
      go_frame
      refine kT 1 ?_
      go_frame
      refine kT 2 ?_
      go_frame
      refine kT 3 ?_
      go_frame
      refine kT 4 ?_
      go_frame
      refine kT 5 ?_
      go_frame
      refine kT 6 ?_
      go_frame
      refine kT 7 ?_
      go_frame
      refine kT 8 ?_
      go_frame
      refine wpAnyH_ready (rs := [9]) (by kernel_rfl) (by simp) ?_
      refine AllReadyH.cons (o := { dst := none, op := Op.store 3 (Operand.tmp 25) (Operand.tmp 21), type := 0, pos := "l06_manifest.go:301", after := #[{ on := 8, ground := Ground.data }, { on := 4, ground := Ground.data }, { on := 0, ground := Ground.phase }, { on := 1, ground := Ground.phase }, { on := 2, ground := Ground.phase }, { on := 3, ground := Ground.phase }, { on := 4, ground := Ground.phase }], guard := none }) rfl (fun K hK => ?_) AllReadyH.nil
      go_simp
      refine hK.out _ _ (by exact HC7.out) (fun hHeld => ?_)
      clear hK K
      try simp only [Act.put, List.setIfInBounds_toArray, List.set_cons_zero, List.set_cons_succ]
      refine wpAnyH_done (by kernel_rfl) ?_ _
      refine NoPanic.normal ?_
      clear hHeld kx fx L6 T6 HC
      have h6l : w.heap.size < ((wc.setCell ⟨g, 9, none⟩ (.int .i64 fi)).drew).heap.size := by show w.heap.size < (wc.setCell ⟨g, 9, none⟩ (.int .i64 fi)).heap.size; rw [size_setCell]; exact hlt
      generalize (wc.setCell ⟨g, 9, none⟩ (.int .i64 fi)).drew = w6 at *
      have hml := L7.out.mp.lt
      obtain ⟨w7, hrun, hm7, hg7⟩ := TxtFn.put (show TxtFn w6.drew m n (fun k => memB k (keysAll s)) from L7.out.mp) (by unfold maxLen; omega) (k := ky) (by unfold maxLen; omega)
      have hg7' : w6.grownBy w7 (some m) := ⟨hg7.os, hg7.tape, hg7.output, hg7.size, hg7.block⟩
      have k10 := L7.out.cs 10 _ rfl
      simp only [Nat.zero_add] at k10
      have HC8 : Hid ((fun w' => w'.cell? ⟨w.heap.size, 0, none⟩ = some (.int .i64 kd) ∧ w'.cell? ⟨w.heap.size, 1, none⟩ = some (.int .i64 tk) ∧ w'.cell? ⟨w.heap.size, 2, none⟩ = some (.int .i64 2) ∧ w'.cell? ⟨w.heap.size, 3, none⟩ = some (.int .i64 bg) ∧ w'.cell? ⟨w.heap.size, 4, none⟩ = some (.int .i64 fi) ∧ w'.cell? ⟨w.heap.size, 5, none⟩ = some (.string ky)) w7) := Lib.hid (HSM.out w6 w7 h6l hg7' HC7.out)
      have L8 := LedF.setMap L7.out hg7' hm7 (by show n + 1 ≤ 8192 + s.sq.toNat; exact hn1)
      have T8 := T7.out.step hg7' (fun i e => .inr (.inr (.inr (.inl (by injection e with e; exact e.symm)))))
      have FIN : Hid (DoneL base g A A2 m w { s with ents := s.ents ++ [GRec.ent ⟨kd, tk, 2, bg, fi, ky⟩], hi := s.hi.set 2 fi } (.returned (.tuple #[])) w7) := Lib.hid (by
        have hz := HZ.out
        have e1 : ({ s with ents := s.ents ++ [GRec.ent ⟨kd, tk, 2, bg, fi, ky⟩], hi := s.hi.set 2 fi } : GSt) = { sq := s.sq, fe := s.fe, ents := zs, tmbs := s.tmbs, lo := s.lo, hi := ⟨s.hi.a, s.hi.b, fi⟩ } := by rw [← hz]; rfl
        rw [e1]
        exact ⟨rfl, A5, k5, A2, c2, n + 1, L8.toLed (fun k => by have := keys_enter (s := s) (s' := { sq := s.sq, fe := s.fe, ents := zs, tmbs := s.tmbs, lo := s.lo, hi := ⟨s.hi.a, s.hi.b, fi⟩ }) (e := GRec.ent ⟨kd, tk, 2, bg, fi, ky⟩) hz rfl k; exact this), T8, hA6.out, .inl rfl⟩)
      clear L8 T8 hm7 hg7
      go_upto_region 3 with fail
      refine wp_region_noPanic ?_
      refine wp_region_held_drew (S := fun w' => w'.cell? ⟨w.heap.size, 0, none⟩ = some (.int .i64 kd) ∧ w'.cell? ⟨w.heap.size, 1, none⟩ = some (.int .i64 tk) ∧ w'.cell? ⟨w.heap.size, 2, none⟩ = some (.int .i64 2) ∧ w'.cell? ⟨w.heap.size, 3, none⟩ = some (.int .i64 bg) ∧ w'.cell? ⟨w.heap.size, 4, none⟩ = some (.int .i64 fi) ∧ w'.cell? ⟨w.heap.size, 5, none⟩ = some (.string ky) ∧ w'.cell? ⟨g, 10, none⟩ = some (.map (some m))) (by kernel_rfl) (by exact (and_six HC7.out k10)) (fun hHeld => ?_)
      refine kT 0 ?_
      go_frame
      refine kT 1 ?_
      go_frame
      refine kT 2 ?_
      go_frame
      refine kT 3 ?_
      go_frame
      refine kT 4 ?_
      go_frame
      refine kT 5 ?_
      go_frame
      refine wpAnyH_ready (rs := [6]) (by kernel_rfl) (by simp) ?_
      refine AllReadyH.cons (o := { dst := none, op := Op.mapUpdate 71 (Operand.tmp 29) (Operand.tmp 31) (Operand.const (Value.bool true)), type := 0, pos := "l06_manifest.go:302", after := #[{ on := 3, ground := Ground.data }, { on := 5, ground := Ground.data }, { on := 0, ground := Ground.phase }, { on := 1, ground := Ground.phase }, { on := 2, ground := Ground.phase }, { on := 3, ground := Ground.phase }, { on := 4, ground := Ground.phase }, { on := 5, ground := Ground.phase }], guard := none }) rfl (fun K hK => ?_) AllReadyH.nil
      go_simp
      refine hK.out _ _ (by exact (and_six HC8.out ((World.cell?_of_block (a := ⟨g, 10, none⟩) (hg7'.block g L7.out.gl (fun e => L7.out.mg (by injection e with e; exact e.symm)))).trans k10))) (fun hHeld => ?_)
      clear hK K
      try simp only [Act.put, List.setIfInBounds_toArray, List.set_cons_zero, List.set_cons_succ]
      refine wpAnyH_done (by kernel_rfl) ?_ _
      refine NoPanic.normal ?_
      clear hHeld
      go_wp2
      exact ⟨rfl, .tuple #[], by simp [results, Tryz.results95, go_sem], FIN.out⟩

end Go.Proofs.YtpfanmcjlfdaiaaGreatDoorR

/- Contract of the model's l06Apply, for all right records. Conditions: the state is right; lengths. -/
namespace Go.Proofs.YtpfanmcjlfdaiaaGreatDoorR
open Go.ChangeShapes Go.WideShapes Go.ChangeAt Go.RowKit Go.Deep Go.Joins Go.Maps
set_option linter.unusedVariables false

theorem l06Apply_any (A : Option Addr) (c : Nat) (A2 : Option Addr) (c2 : Nat) (s : GSt) (r : GRec) (B : Nat) (w : World) (h : StAt w B A A2 s) (hB : B ≤ w.heap.size) (hl : s.ents.length ≤ 1048576) (hl2 : s.tmbs.length ≤ 1048576) (hsp : StP s) (hsq : 0 ≤ s.sq ∧ s.sq ≤ 999999) (hrp : RecP r) (hky : r.key.size ≤ 1048576) :
    Calls Tryz.prog 25 #[.agg #[.int .i64 s.sq, .int .i64 s.fe, .slice A s.ents.length c, .slice A2 s.tmbs.length c2, .int .i64 s.lo.a, .int .i64 s.lo.b, .int .i64 s.lo.c, .int .i64 s.hi.a, .int .i64 s.hi.b, .int .i64 s.hi.c], .agg #[.int .i64 r.kind, .int .i64 r.tok, .int .i64 r.tier, .int .i64 r.beg, .int .i64 r.fin, .string r.key]] w (AplEnd s r w) := by
  have hT : ∀ W, Below w.heap.size w W → Calls Tryz.prog 58 #[.agg #[.int .i64 s.sq, .int .i64 s.fe, .slice A s.ents.length c, .slice A2 s.tmbs.length c2, .int .i64 s.lo.a, .int .i64 s.lo.b, .int .i64 s.lo.c, .int .i64 s.hi.a, .int .i64 s.hi.b, .int .i64 s.hi.c], .agg #[.int .i64 r.kind, .int .i64 r.tok, .int .i64 r.tier, .int .i64 r.beg, .int .i64 r.fin, .string r.key]] W (IsBB (TakeP s r) W) := fun W hb => l06Takes_any A c A2 c2 s r B W (h.below hb hB) (Nat.le_trans hB hb.size) hl hl2 hsp hrp hky
  obtain ⟨kd, tk, ti, bg, fi, ky⟩ := r
  have hr := hrp
  simp only [RecP, GRec.ent] at hr
  rcases hr with ⟨rfl, rfl, rfl, _⟩ | ⟨rfl, _⟩ | ⟨rfl, _, h0, he⟩ | ⟨rfl, _, he⟩ | ⟨rfl, rfl, rfl, _⟩
  · exact apply1 A c A2 c2 s 0 bg fi ky B w h hB hl hl2 hsq hT
  · exact apply2 A c A2 c2 s tk ti bg fi ky B w h hB hl hl2 hsq hT
  · have := he.tier
    dsimp only at this
    rcases (show ti = 1 ∨ ti = 2 by omega) with rfl | rfl
    · exact apply3_1 A c A2 c2 s tk bg fi ky B w h hB hl hl2 hsq hT
    · exact apply3_2 A c A2 c2 s tk bg fi ky B w h hB hl hl2 hsq hT
  · have := he.tier
    dsimp only at this
    rcases (show ti = 0 ∨ ti = 1 ∨ ti = 2 by omega) with rfl | rfl | rfl
    · exact apply4_0 A c A2 c2 s tk bg fi ky B w h hB hl hl2 hsq hT
    · exact apply4_1 A c A2 c2 s tk bg fi ky B w h hB hl hl2 hsq hT
    · exact apply4_2 A c A2 c2 s tk bg fi ky B w h hB hl hl2 hsq hT
  · exact apply5 A c A2 c2 s 0 bg fi ky B w h hB hl hl2 hsq hT

end Go.Proofs.YtpfanmcjlfdaiaaGreatDoorR

/- Contract of the model's ApplyRecord. Conditions: lengths. -/
namespace Go.Proofs.YtpfanmcjlfdaiaaGreatDoorR
open Go.ChangeShapes Go.WideShapes Go.ChangeAt Go.RowKit Go.Deep Go.Joins Go.Maps
set_option linter.unusedVariables false
set_option linter.unusedSimpArgs false

set_option maxRecDepth 100000 in
set_option maxHeartbeats 4000000 in
theorem specApplyRecord_any (A : Option Addr) (c : Nat) (A2 : Option Addr) (c2 : Nat) (s : GSt) (r : GRec) (B : Nat) (w : World) (h : StAt w B A A2 s) (hB : B ≤ w.heap.size) (hf : ∀ o ∈ s.ents, o.small) (hf2 : ∀ o ∈ s.tmbs, o.small) (hl : s.ents.length ≤ 1048576) (hl2 : s.tmbs.length ≤ 1048576) (hky : r.key.size ≤ 1048576) :
    Calls Tryz.prog 7 #[.agg #[.int .i64 s.sq, .int .i64 s.fe, .slice A s.ents.length c, .slice A2 s.tmbs.length c2, .int .i64 s.lo.a, .int .i64 s.lo.b, .int .i64 s.lo.c, .int .i64 s.hi.a, .int .i64 s.hi.b, .int .i64 s.hi.c], .agg #[.int .i64 r.kind, .int .i64 r.tok, .int .i64 r.tier, .int .i64 r.beg, .int .i64 r.fin, .string r.key]] w (AplAns s r w) := by
  have H := Lib.hid h; clear h
  have Hf := Lib.hid hf; clear hf
  have Hf2 := Lib.hid hf2; clear hf2
  skip
  go_enter Tryz.func7, Tryz.ntmps7
  go_upto_region 1 with fail
  obtain ⟨W, hW⟩ : ∃ W, W = ((w.alloc (.cells #[.int .i64 s.sq, .int .i64 s.fe, .slice A s.ents.length c, .slice A2 s.tmbs.length c2, .int .i64 s.lo.a, .int .i64 s.lo.b, .int .i64 s.lo.c, .int .i64 s.hi.a, .int .i64 s.hi.b, .int .i64 s.hi.c] 34)).alloc (.cells #[.int .i64 r.kind, .int .i64 r.tok, .int .i64 r.tier, .int .i64 r.beg, .int .i64 r.fin, .string r.key] 38)).alloc (.cells #[.int .i64 0, .int .i64 0, .slice none 0 0, .slice none 0 0, .int .i64 0, .int .i64 0, .int .i64 0, .int .i64 0, .int .i64 0, .int .i64 0] 34) := ⟨_, rfl⟩
  have p0 : ApW w.heap.size W [.int .i64 s.sq, .int .i64 s.fe, .slice A s.ents.length c, .slice A2 s.tmbs.length c2, .int .i64 s.lo.a, .int .i64 s.lo.b, .int .i64 s.lo.c, .int .i64 s.hi.a, .int .i64 s.hi.b, .int .i64 s.hi.c] [.int .i64 r.kind, .int .i64 r.tok, .int .i64 r.tier, .int .i64 r.beg, .int .i64 r.fin, .string r.key] [.int .i64 0, .int .i64 0, .slice none 0 0, .slice none 0 0, .int .i64 0, .int .i64 0, .int .i64 0, .int .i64 0, .int .i64 0, .int .i64 0] := by rw [hW]; exact ApW.new w (.int .i64 s.sq) (.int .i64 s.fe) (.slice A s.ents.length c) (.slice A2 s.tmbs.length c2) (.int .i64 s.lo.a) (.int .i64 s.lo.b) (.int .i64 s.lo.c) (.int .i64 s.hi.a) (.int .i64 s.hi.b) (.int .i64 s.hi.c) (.int .i64 r.kind) (.int .i64 r.tok) (.int .i64 r.tier) (.int .i64 r.beg) (.int .i64 r.fin) (.string r.key) _ _ _
  have b0 : Below w.heap.size w W := by rw [hW]; exact bal (bal (bal (Below.refl _ _) _) _) _
  rw [← hW]
  clear hW
  generalize (Value.agg #[.int .i64 s.sq, .int .i64 s.fe, .slice A s.ents.length c, .slice A2 s.tmbs.length c2, .int .i64 s.lo.a, .int .i64 s.lo.b, .int .i64 s.lo.c, .int .i64 s.hi.a, .int .i64 s.hi.b, .int .i64 s.hi.c]) = va
  generalize (Value.agg #[.int .i64 r.kind, .int .i64 r.tok, .int .i64 r.tier, .int .i64 r.beg, .int .i64 r.fin, .string r.key]) = vr
  have P0 := Lib.hid p0; clear p0
  generalize hx0 : w.heap.size = x0 at *
  have Hx0 := Lib.hid hx0; clear hx0
  have hW0 : x0 ≤ W.heap.size := by have := P0.out.sz; omega
  obtain ⟨c0, c1, c2x, c3, c4, c5, c6, c7, c8, c9⟩ := P0.out.cs.ten
  obtain ⟨q0, q1, q2, q3, q4, q5⟩ := (show RecAt W (x0 + 1) r from P0.out.cr).cells
  go_wp2_with fail
  refine (specStateOK_any A c A2 c2 s x0 W (H.out.below b0 hB |>.more hB) hW0 Hf.out Hf2.out hl hl2).mono ?_
  rintro e w1 ⟨b, hb, rfl, hb1⟩
  have HB1 := Lib.hid hb; clear hb
  have b1 : Below x0 w w1 := b0.trans (hb1.mono hW0)
  have P1 := Lib.hid (P0.out.below hb1 P0.out.sz)
  clear P0 b0 hb1 c0 c1 c2x c3 c4 c5 c6 c7 c8 c9 q0 q1 q2 q3 q4 q5
  have hw1 : x0 ≤ w1.heap.size := by have := P1.out.sz; omega
  obtain ⟨c0, c1, c2x, c3, c4, c5, c6, c7, c8, c9⟩ := P1.out.cs.ten
  obtain ⟨q0, q1, q2, q3, q4, q5⟩ := (show RecAt w1 (x0 + 1) r from P1.out.cr).cells
  cases b
  · have HN : Hid (¬ (StP s ∧ RecP r)) := Lib.hid (fun h => by have := HB1.out.2 h.1; cases this)
    clear HB1
    obtain ⟨z0, z1, z2, z3, z4, z5, z6, z7, z8, z9⟩ := P1.out.cz.ten
    have y0 := P1.out.fz 0
    have y1 := P1.out.fz 1
    have y2 := P1.out.fz 2
    have y3 := P1.out.fz 3
    have y4 := P1.out.fz 4
    have y5 := P1.out.fz 5
    have y6 := P1.out.fz 6
    have y7 := P1.out.fz 7
    have y8 := P1.out.fz 8
    have y9 := P1.out.fz 9
    go_wp2
    refine bodyPost_ret (v := .tuple #[.agg #[.int .i64 0, .int .i64 0, .slice none 0 0, .slice none 0 0, .int .i64 0, .int .i64 0, .int .i64 0, .int .i64 0, .int .i64 0, .int .i64 0], .bool false, .int .i64 1]) (by simp [results, Tryz.results7, go_sem, *]) rfl ⟨_, false, 1, _, _, _, _, .inl ⟨HN.out, rfl, rfl, rfl⟩, rfl, ?_⟩
    rw [Hx0.out]
    exact st_end10 (zSt_at w1) (zSt_own (x0 + 3) w1) (Nat.le_refl _) (Nat.le_refl _) (Nat.le_refl _) b1
  have HS : Hid (StP s) := Lib.hid (HB1.out.1 rfl)
  clear HB1
  go_wp2_with fail
  refine (specRecordOK_any r w1 hky).mono ?_
  rintro e w2 ⟨b, hb, rfl, hb2⟩
  have HB2 := Lib.hid hb; clear hb
  have b2 : Below x0 w w2 := b1.trans (hb2.mono hw1)
  have P2 := Lib.hid (P1.out.below hb2 P1.out.sz)
  clear P1 b1 hb2 c0 c1 c2x c3 c4 c5 c6 c7 c8 c9 q0 q1 q2 q3 q4 q5
  have hw2 : x0 ≤ w2.heap.size := by have := P2.out.sz; omega
  obtain ⟨c0, c1, c2x, c3, c4, c5, c6, c7, c8, c9⟩ := P2.out.cs.ten
  obtain ⟨q0, q1, q2, q3, q4, q5⟩ := (show RecAt w2 (x0 + 1) r from P2.out.cr).cells
  cases b
  · have HN : Hid (¬ (StP s ∧ RecP r)) := Lib.hid (fun h => by have := HB2.out.2 h.2; cases this)
    clear HB2
    obtain ⟨z0, z1, z2, z3, z4, z5, z6, z7, z8, z9⟩ := P2.out.cz.ten
    have y0 := P2.out.fz 0
    have y1 := P2.out.fz 1
    have y2 := P2.out.fz 2
    have y3 := P2.out.fz 3
    have y4 := P2.out.fz 4
    have y5 := P2.out.fz 5
    have y6 := P2.out.fz 6
    have y7 := P2.out.fz 7
    have y8 := P2.out.fz 8
    have y9 := P2.out.fz 9
    go_wp2
    refine bodyPost_ret (v := .tuple #[.agg #[.int .i64 0, .int .i64 0, .slice none 0 0, .slice none 0 0, .int .i64 0, .int .i64 0, .int .i64 0, .int .i64 0, .int .i64 0, .int .i64 0], .bool false, .int .i64 1]) (by simp [results, Tryz.results7, go_sem, *]) rfl ⟨_, false, 1, _, _, _, _, .inl ⟨HN.out, rfl, rfl, rfl⟩, rfl, ?_⟩
    rw [Hx0.out]
    exact st_end10 (zSt_at w2) (zSt_own (x0 + 3) w2) (Nat.le_refl _) (Nat.le_refl _) (Nat.le_refl _) b2
  have HR : Hid (RecP r) := Lib.hid (HB2.out.1 rfl)
  clear HB2
  by_cases hq9 : s.sq = 999999
  · have D : (s.sq == 999999) = true := by simpa using hq9
    have HQ9 := Lib.hid hq9; clear hq9
    have HFU : Hid (FullP s) := Lib.hid (.inl HQ9.out)
    go_wp2_with fail
    refine (l06OwnO_any A c A2 c2 s x0 w2 ((H.out.below b2 hB).more hB) hw2 hl hl2).mono ?_
    rintro e w9 ⟨A1, k1, A3, k3, rfl, o1, o3, hne, hb9, hyz⟩
    have b9 : Below x0 w w9 := b2.trans (hb9.mono hw2)
    have P9 := Lib.hid (P2.out.below hb9 P2.out.sz)
    have O1 := Lib.hid o1; have O3 := Lib.hid o3; have HNE := Lib.hid hne
    have hy9 : x0 + 3 ≤ w2.heap.size + 2 := by have := P2.out.sz; omega
    clear P2 b2 hb9 o1 o3 hne c0 c1 c2x c3 c4 c5 c6 c7 c8 c9 q0 q1 q2 q3 q4 q5
    generalize w2.heap.size + 2 = y at *
    obtain ⟨z0, z1, z2, z3, z4, z5, z6, z7, z8, z9⟩ := P9.out.cz.ten
    have y0 := P9.out.fz 0
    have y1 := P9.out.fz 1
    have y2 := P9.out.fz 2
    have y3 := P9.out.fz 3
    have y4 := P9.out.fz 4
    have y5 := P9.out.fz 5
    have y6 := P9.out.fz 6
    have y7 := P9.out.fz 7
    have y8 := P9.out.fz 8
    have y9 := P9.out.fz 9
    go_wp2
    refine bodyPost_ret (v := .tuple #[.agg #[.int .i64 s.sq, .int .i64 s.fe, .slice A1 s.ents.length k1, .slice A3 s.tmbs.length k3, .int .i64 s.lo.a, .int .i64 s.lo.b, .int .i64 s.lo.c, .int .i64 s.hi.a, .int .i64 s.hi.b, .int .i64 s.hi.c], .bool false, .int .i64 7]) (by simp [results, Tryz.results7, go_sem, *]) rfl ⟨_, false, 7, _, _, _, _, .inr (.inl ⟨⟨HS.out, HR.out⟩, HFU.out, rfl, rfl, rfl⟩), rfl, ?_⟩
    rw [Hx0.out]
    exact apl_end O1.out O3.out HNE.out hy9 b9
  have D : (s.sq == 999999) = false := beq_false_of_ne hq9
  have HQ9 := Lib.hid hq9; clear hq9
  have HQ : Hid (0 ≤ s.sq ∧ s.sq ≤ 999999) := Lib.hid (inB_iff.1 HS.out.1)
  have HLS : Hid (s.ents.length + s.tmbs.length ≤ 4096) := Lib.hid HS.out.2.2.1
  by_cases h4 : s.ents.length + s.tmbs.length = 4096
  · have D4 : (IntKind.i64.wrap ((s.ents.length : Int) + (s.tmbs.length : Int)) == 4096) = true := by rw [show IntKind.i64.wrap ((s.ents.length : Int) + (s.tmbs.length : Int)) = 4096 from by rw [IntKind.wrap_i64]; omega]; rfl
    have D5 : (wrap64 ((s.ents.length : Int) + (s.tmbs.length : Int)) == 4096) = true := by rw [show wrap64 ((s.ents.length : Int) + (s.tmbs.length : Int)) = 4096 from by unfold wrap64; omega]; rfl
    have D6 : ((s.ents.length : Int) + (s.tmbs.length : Int) == 4096) = true := by rw [show (s.ents.length : Int) + (s.tmbs.length : Int) = 4096 from by omega]; rfl
    have H4 := Lib.hid h4; clear h4
    have HFU : Hid (FullP s) := Lib.hid (.inr H4.out)
    go_wp2_with fail
    refine (l06OwnO_any A c A2 c2 s x0 w2 ((H.out.below b2 hB).more hB) hw2 hl hl2).mono ?_
    rintro e w9 ⟨A1, k1, A3, k3, rfl, o1, o3, hne, hb9, hyz⟩
    have b9 : Below x0 w w9 := b2.trans (hb9.mono hw2)
    have P9 := Lib.hid (P2.out.below hb9 P2.out.sz)
    have O1 := Lib.hid o1; have O3 := Lib.hid o3; have HNE := Lib.hid hne
    have hy9 : x0 + 3 ≤ w2.heap.size + 2 := by have := P2.out.sz; omega
    clear P2 b2 hb9 o1 o3 hne c0 c1 c2x c3 c4 c5 c6 c7 c8 c9 q0 q1 q2 q3 q4 q5
    generalize w2.heap.size + 2 = y at *
    obtain ⟨z0, z1, z2, z3, z4, z5, z6, z7, z8, z9⟩ := P9.out.cz.ten
    have y0 := P9.out.fz 0
    have y1 := P9.out.fz 1
    have y2 := P9.out.fz 2
    have y3 := P9.out.fz 3
    have y4 := P9.out.fz 4
    have y5 := P9.out.fz 5
    have y6 := P9.out.fz 6
    have y7 := P9.out.fz 7
    have y8 := P9.out.fz 8
    have y9 := P9.out.fz 9
    go_wp2
    refine bodyPost_ret (v := .tuple #[.agg #[.int .i64 s.sq, .int .i64 s.fe, .slice A1 s.ents.length k1, .slice A3 s.tmbs.length k3, .int .i64 s.lo.a, .int .i64 s.lo.b, .int .i64 s.lo.c, .int .i64 s.hi.a, .int .i64 s.hi.b, .int .i64 s.hi.c], .bool false, .int .i64 7]) (by simp [results, Tryz.results7, go_sem, *]) rfl ⟨_, false, 7, _, _, _, _, .inr (.inl ⟨⟨HS.out, HR.out⟩, HFU.out, rfl, rfl, rfl⟩), rfl, ?_⟩
    rw [Hx0.out]
    exact apl_end O1.out O3.out HNE.out hy9 b9
  have D4 : (IntKind.i64.wrap ((s.ents.length : Int) + (s.tmbs.length : Int)) == 4096) = false := beq_false_of_ne (by rw [IntKind.wrap_i64]; omega)
  have D5 : (wrap64 ((s.ents.length : Int) + (s.tmbs.length : Int)) == 4096) = false := beq_false_of_ne (by unfold wrap64; omega)
  have D6 : ((s.ents.length : Int) + (s.tmbs.length : Int) == 4096) = false := beq_false_of_ne (by omega)
  have HNF : Hid (¬ FullP s) := Lib.hid (fun h => h.elim HQ9.out h4)
  clear h4
  go_wp2_with fail
  refine (l06Apply_any A c A2 c2 s r x0 w2 ((H.out.below b2 hB).more hB) hw2 hl hl2 HS.out HQ.out HR.out hky).mono ?_
  rintro e w5 ⟨x, b, A5, k5, A6, k6, hx, rfl, hst, hso, hk5, hk6, hb5⟩
  obtain ⟨w6, hw6⟩ : ∃ w6, w6 = w5.alloc (.cells #[.int .i64 x.sq, .int .i64 x.fe, .slice A5 x.ents.length k5, .slice A6 x.tmbs.length k6, .int .i64 x.lo.a, .int .i64 x.lo.b, .int .i64 x.lo.c, .int .i64 x.hi.a, .int .i64 x.hi.b, .int .i64 x.hi.c] 34) := ⟨_, rfl⟩
  have CX : Hid (Cells w6 w5.heap.size 0 [.int .i64 x.sq, .int .i64 x.fe, .slice A5 x.ents.length k5, .slice A6 x.tmbs.length k6, .int .i64 x.lo.a, .int .i64 x.lo.b, .int .i64 x.lo.c, .int .i64 x.hi.a, .int .i64 x.hi.b, .int .i64 x.hi.c]) := Lib.hid (by rw [hw6]; exact Cells.new w5 _ _)
  have h56 : Below w5.heap.size w5 w6 := by rw [hw6]; exact bal (Below.refl _ _) _
  have b6 : Below x0 w w6 := (b2.trans (hb5.mono hw2)).trans (h56.mono (by have := hb5.size; omega))
  have P6 := Lib.hid ((P2.out.below hb5 P2.out.sz).below h56 (by have := hb5.size; have := P2.out.sz; omega))
  have HST := Lib.hid ((hst.below h56 (Nat.le_refl _)).more h56.size)
  have HSO := Lib.hid (hso.below h56 (Nat.le_refl _))
  have hgz : x0 + 3 ≤ w2.heap.size := P2.out.sz
  have hzw : w5.heap.size ≠ x0 + 2 := by have := hb5.size; omega
  have HX := Lib.hid hx
  have HK5 := Lib.hid hk5; have HK6 := Lib.hid hk6
  have HW6 := Lib.hid hw6
  clear P2 b2 hb5 hst hso hx hk5 hk6 h56 c0 c1 c2x c3 c4 c5 c6 c7 c8 c9 q0 q1 q2 q3 q4 q5 hw6
  go_upto_region 6 with fail
  rw [← HW6.out]
  obtain ⟨d0, d1, d2, d3, d4, d5, d6, d7, d8, d9⟩ := CX.out.ten
  obtain ⟨z0, z1, z2, z3, z4, z5, z6, z7, z8, z9⟩ := P6.out.cz.ten
  have y0 := P6.out.fz 0
  have y1 := P6.out.fz 1
  have y2 := P6.out.fz 2
  have y3 := P6.out.fz 3
  have y4 := P6.out.fz 4
  have y5 := P6.out.fz 5
  have y6 := P6.out.fz 6
  have y7 := P6.out.fz 7
  have y8 := P6.out.fz 8
  have y9 := P6.out.fz 9
  go_wp2
  refine bodyPost_ret (v := .tuple #[.agg #[.int .i64 x.sq, .int .i64 x.fe, .slice A5 x.ents.length k5, .slice A6 x.tmbs.length k6, .int .i64 x.lo.a, .int .i64 x.lo.b, .int .i64 x.lo.c, .int .i64 x.hi.a, .int .i64 x.hi.b, .int .i64 x.hi.c], .bool b, .int .i64 0]) (by simp [results, Tryz.results7, go_sem, *]) rfl ⟨_, b, 0, _, _, _, _, .inr (.inr ⟨⟨HS.out, HR.out⟩, HNF.out, HX.out, rfl⟩), rfl, ?_⟩
  rw [Hx0.out]
  exact st_end10 HST.out HSO.out HK5.out HK6.out hgz b6

end Go.Proofs.YtpfanmcjlfdaiaaGreatDoorR
