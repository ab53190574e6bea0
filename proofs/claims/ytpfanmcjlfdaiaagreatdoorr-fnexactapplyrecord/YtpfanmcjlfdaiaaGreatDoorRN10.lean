/-
  Several texts as one: contracts that the law leans on; each part says what it proves and its conditions.
-/
import Derived.Test.YtpfanmcjlfdaiaaGreatDoorRN9
import Derived.Test.YtpfanmcjlfdaiaaGreatDoorRN8
import Derived.Test.YtpfanmcjlfdaiaaGreatDoorRIntSet
import Derived.Test.YtpfanmcjlfdaiaaGreatDoorRRecD
import Derived.Test.YtpfanmcjlfdaiaaGreatDoorRCloE
import Derived.Test.YtpfanmcjlfdaiaaGreatDoorRN11
import Derived.Deep.MidRow
import Derived.Test.YtpfanmcjlfdaiaaGreatDoorRN4
import Derived.Test.YtpfanmcjlfdaiaaGreatDoorRAggLaw
import Derived.Laws.StructEq
import Derived.ChangeKeysEq
import Derived.Deep.QuietTactic
import Derived.Test.YtpfanmcjlfdaiaaGreatDoorRN2

/- What an orphan is; a look-up in a set of texts. No Go text is walked here. -/
namespace Go.Proofs.YtpfanmcjlfdaiaaGreatDoorR
open Go.ChangeShapes Go.WideShapes Go.ChangeAt Go.RowKit Go.Deep Go.Joins Go.Maps
set_option linter.unusedVariables false
set_option linter.unusedSimpArgs false

theorem TxtSet.look {w : World} {b : Nat} {ks : List ByteArray} (h : TxtSet w b ks) {k : ByteArray} (hk : k.size ≤ 2 ^ 63 - 1) :
    (Instr.lookup 71 (.map (some b)) (.string k) false).run Tryz.prog w = .ok (.bool (memB k ks)) w := by
  obtain ⟨D, hown, hat, _⟩ := h
  obtain ⟨u, ps, hrun, hu⟩ := hown.lookup txtKeyed Tryz.underlying71 (zeroBoolK w) (plainElem_bool Tryz.underlying4 false) (WideMaps.keyOf_string_mk Tryz.underlying9 hk)
  obtain ⟨x, rfl, hx⟩ := plainElem_bool_inv Tryz.underlying4 hu
  have := hat k
  unfold klt at this
  rw [this] at hx
  simp only [Prod.mk.injEq, DataW.lit.injEq, Lit.bool.injEq] at hx
  rw [hrun, hx.1]

/-- a data key that the log adds no more -/
def PastP (s : GSt) (key : ByteArray) : Prop := ∃ t n m, IsKey key t n m ∧ ((t = 0 ∧ n ≤ s.sq) ∨ (t ≠ 0 ∧ m < s.fe))

def keysAll (s : GSt) : List ByteArray := keysR s.ents s.tmbs s.ents.length s.tmbs.length

def OrphP (s : GSt) (key : ByteArray) : Prop := key ∉ keysAll s ∧ PastP s key

open Classical in
noncomputable def orphB (s : GSt) (key : ByteArray) : Bool := decide (OrphP s key)

/-- what both answer -/
def OrphVal (s : GSt) (ks : List ByteArray) (L : List ByteArray) (z : Int) : Prop :=
  (4096 < ks.length ∧ L = [] ∧ z = 2) ∨ (ks.length ≤ 4096 ∧ ¬ StP s ∧ L = [] ∧ z = 1) ∨ (ks.length ≤ 4096 ∧ StP s ∧ L = ks.filter (orphB s) ∧ z = 0)

theorem OrphVal.one {s : GSt} {ks L L' : List ByteArray} {z z' : Int} (h : OrphVal s ks L z) (h' : OrphVal s ks L' z') : L' = L ∧ z' = z := by
  rcases h with ⟨h0, rfl, rfl⟩ | ⟨h0, h1, rfl, rfl⟩ | ⟨h0, h1, rfl, rfl⟩ <;> rcases h' with ⟨k0, rfl, rfl⟩ | ⟨k0, k1, rfl, rfl⟩ | ⟨k0, k1, rfl, rfl⟩
  all_goals first | exact ⟨rfl, rfl⟩ | (exfalso; omega) | exact absurd h1 k1 | exact absurd k1 h1

theorem OrphVal.len {s : GSt} {ks L : List ByteArray} {z : Int} (h : OrphVal s ks L z) : L.length ≤ 4096 := by
  rcases h with ⟨_, rfl, _⟩ | ⟨_, _, rfl, _⟩ | ⟨h, _, rfl, _⟩
  · simp
  · simp
  · exact Nat.le_trans (List.length_filter_le _ _) h

end Go.Proofs.YtpfanmcjlfdaiaaGreatDoorR

/- When the log takes a record, and what a state is behind it. No Go text is walked here. -/
namespace Go.Proofs.YtpfanmcjlfdaiaaGreatDoorR
open Go.ChangeShapes Go.WideShapes Go.ChangeAt Go.RowKit Go.Deep Go.Joins Go.Maps
set_option linter.unusedVariables false
set_option linter.unusedSimpArgs false

def restsB (s : GSt) (key : ByteArray) : Bool := s.tmbs.any fun t => decide (t.key = key)

/-- the log takes a right record -/
def TakeP (s : GSt) (r : GRec) : Prop :=
  (r.kind = 1 ∧ (∃ t m, IsKey r.key t (s.sq + 1) m) ∧ r.beg = s.hi.a ∧ r.key ∉ keysAll s) ∨
  (r.kind = 2 ∧ s.fe < r.tok) ∨
  (r.kind = 3 ∧ (∃ t, IsKey r.key t r.beg r.tok) ∧ r.tok = s.fe ∧ r.beg = s.hi.at r.tier ∧ r.fin = r.beg + wid r.tier.toNat ∧ r.fin ≤ s.hi.at (r.tier - 1) ∧ s.lo.at (r.tier - 1) ≤ r.beg ∧ r.key ∉ keysAll s) ∨
  (r.kind = 4 ∧ r.tok = s.fe ∧ firstE s.ents r.tier = some r.ent ∧ upB s r.tier.toNat r.ent = true) ∨
  (r.kind = 5 ∧ restsB s r.key = true)

/-- the state behind a record that is taken -/
def appS (s : GSt) (r : GRec) : GSt :=
  if r.kind = 1 ∨ r.kind = 3 then { s with sq := s.sq + 1, ents := s.ents ++ [r.ent], hi := s.hi.set r.tier r.fin }
  else if r.kind = 2 then { s with sq := s.sq + 1, fe := r.tok }
  else if r.kind = 4 then { s with sq := s.sq + 1, ents := s.ents.eraseP (fun e => e.tier == r.tier), tmbs := s.tmbs ++ [⟨s.sq + 1, r.key⟩], lo := s.lo.set r.tier r.fin }
  else { s with sq := s.sq + 1, tmbs := s.tmbs.filter fun t => decide (¬ t.key = r.key) }

/-- a state behind a record, and whether it is taken -/
def AplP (s : GSt) (r : GRec) (x : GSt) (b : Bool) : Prop := (TakeP s r ∧ x = appS s r ∧ b = true) ∨ (¬ TakeP s r ∧ x = { s with sq := s.sq + 1 } ∧ b = false)

theorem AplP.one {s : GSt} {r : GRec} {x x' : GSt} {b b' : Bool} (h : AplP s r x b) (h' : AplP s r x' b') : x' = x ∧ b' = b := by
  rcases h with ⟨h0, rfl, rfl⟩ | ⟨h0, rfl, rfl⟩ <;> rcases h' with ⟨k0, rfl, rfl⟩ | ⟨k0, rfl, rfl⟩
  · exact ⟨rfl, rfl⟩
  · exact absurd h0 k0
  · exact absurd k0 h0
  · exact ⟨rfl, rfl⟩

def FullP (s : GSt) : Prop := s.sq = 999999 ∨ s.ents.length + s.tmbs.length = 4096

def AplVal (s : GSt) (r : GRec) (x : GSt) (b : Bool) (z : Int) : Prop :=
  (¬ (StP s ∧ RecP r) ∧ x = zSt ∧ b = false ∧ z = 1) ∨ ((StP s ∧ RecP r) ∧ FullP s ∧ x = s ∧ b = false ∧ z = 7) ∨ ((StP s ∧ RecP r) ∧ ¬ FullP s ∧ AplP s r x b ∧ z = 0)

theorem AplVal.one {s : GSt} {r : GRec} {x x' : GSt} {b b' : Bool} {z z' : Int} (h : AplVal s r x b z) (h' : AplVal s r x' b' z') : x' = x ∧ b' = b ∧ z' = z := by
  rcases h with ⟨h0, rfl, rfl, rfl⟩ | ⟨h0, h1, rfl, rfl, rfl⟩ | ⟨h0, h1, h2, rfl⟩ <;> rcases h' with ⟨k0, rfl, rfl, rfl⟩ | ⟨k0, k1, rfl, rfl, rfl⟩ | ⟨k0, k1, k2, rfl⟩
  all_goals first | exact ⟨rfl, rfl, rfl⟩ | exact absurd h0 k0 | exact absurd k0 h0 | exact absurd h1 k1 | exact absurd k1 h1 | exact ⟨(h2.one k2).1, (h2.one k2).2, rfl⟩

theorem appS_len (s : GSt) (r : GRec) : (appS s r).ents.length ≤ s.ents.length + 1 ∧ (appS s r).tmbs.length ≤ s.tmbs.length + 1 := by
  unfold appS
  split
  · simp
  · split
    · simp
    · split
      · simp
        exact Nat.le_trans (List.eraseP_sublist.length_le) (by omega)
      · simp
        exact Nat.le_trans (List.length_filter_le _ _) (by omega)

end Go.Proofs.YtpfanmcjlfdaiaaGreatDoorR

/- Words for a ledger: a state opened for one call, its lists and its map in blocks of its own. No Go text is walked here. -/
namespace Go.Proofs.YtpfanmcjlfdaiaaGreatDoorR
open Go.ChangeShapes Go.WideShapes Go.ChangeAt Go.RowKit Go.Deep Go.Joins Go.Maps
set_option linter.unusedVariables false
set_option linter.unusedSimpArgs false

/-- block b is a map from texts to bools that says f, of at most n entries -/
def TxtFn (w : World) (b n : Nat) (f : ByteArray → Bool) : Prop :=
  ∃ D : DataW Unit, w.ownsMap Tryz.prog 9 (plainElem Tryz.prog 4) b n D ∧ ∀ k, D.atKey (klt k) (.lit (.bool false)) = .lit (.bool (f k))

theorem TxtFn.of {w : World} {b : Nat} {ks : List ByteArray} (h : TxtSet w b ks) : TxtFn w b ks.length (fun k => memB k ks) := by
  obtain ⟨D, h1, h2, _⟩ := h
  exact ⟨D, h1, h2⟩

theorem TxtFn.lt {w : World} {b n : Nat} {f : ByteArray → Bool} (h : TxtFn w b n f) : b < w.heap.size := by obtain ⟨D, hown, _⟩ := h; exact hown.lt

theorem TxtFn.kept {w w' : World} {b n : Nat} {f : ByteArray → Bool} (h : TxtFn w b n f) (hb : w'.heap[b]? = w.heap[b]?) : TxtFn w' b n f := by
  obtain ⟨D, ⟨es, clock, h1, h2⟩, hat⟩ := h
  exact ⟨D, ⟨es, clock, hb.trans h1, h2⟩, hat⟩

theorem TxtFn.look {w : World} {b n : Nat} {f : ByteArray → Bool} (h : TxtFn w b n f) {k : ByteArray} (hk : k.size ≤ 2 ^ 63 - 1) :
    (Instr.lookup 71 (.map (some b)) (.string k) false).run Tryz.prog w = .ok (.bool (f k)) w := by
  obtain ⟨D, hown, hat⟩ := h
  obtain ⟨u, ps, hrun, hu⟩ := hown.lookup txtKeyed Tryz.underlying71 (zeroBoolK w) (plainElem_bool Tryz.underlying4 false) (WideMaps.keyOf_string_mk Tryz.underlying9 hk)
  obtain ⟨x, rfl, hx⟩ := plainElem_bool_inv Tryz.underlying4 hu
  have := hat k
  unfold klt at this
  rw [this] at hx
  simp only [Prod.mk.injEq, DataW.lit.injEq, Lit.bool.injEq] at hx
  rw [hrun, hx.1]

theorem TxtFn.put {w : World} {b n : Nat} {f : ByteArray → Bool} (h : TxtFn w b n f) (hn : n < maxLen) {k : ByteArray} (hk : k.size ≤ maxLen) :
    ∃ w', (Instr.mapUpdate 71 (.map (some b)) (.string k) (.bool true)).run Tryz.prog w = .ok () w' ∧ TxtFn w' b (n + 1) (fun x => decide (x = k) || f x) ∧ w.grownBy w' (some b) := by
  obtain ⟨D, hown, hat⟩ := h
  obtain ⟨w', hrun, hown', hg⟩ := hown.update txtKeyed Tryz.underlying71 hn (WideMaps.keyOf_string_mk Tryz.underlying9 hk) (plainElem_bool Tryz.underlying4 true)
  refine ⟨w', hrun, ⟨_, hown', fun x => ?_⟩, hg⟩
  show (D.put (klt k) _).atKey (klt x) _ = _
  by_cases e : x = k
  · subst e
    rw [atKey_put_same hown.isMap (by trivial)]
    simp
  · rw [atKey_put_other (fun h => e (klt_inj h)), hat x]
    simp [e]

theorem TxtFn.del {w : World} {b n : Nat} {f : ByteArray → Bool} (h : TxtFn w b n f) {k : ByteArray} (hk : k.size ≤ maxLen) (ty : TypeId) :
    ∃ w', (Builtin.delete_ #[71, 9] ty #[.map (some b), .string k]).run Tryz.prog w = .ok (.tuple #[]) w' ∧ TxtFn w' b n (fun x => !decide (x = k) && f x) ∧ w.grownBy w' (some b) := by
  obtain ⟨D, hown, hat⟩ := h
  obtain ⟨w', hrun, hown', hg⟩ := hown.drop txtKeyed Tryz.underlying71 (WideMaps.keyOf_string_mk Tryz.underlying9 hk) ty
  refine ⟨w', hrun, ⟨_, hown', fun x => ?_⟩, hg.grown⟩
  show (D.del (klt k)).atKey (klt x) _ = _
  by_cases e : x = k
  · subst e
    rw [atKey_del_same]
    simp
  · rw [atKey_del_other (fun h => e (klt_inj h)), hat x]
    simp [e]

/-- but for a ledger's own blocks, and what is new, nothing has turned -/
structure LTurn (g : Nat) (A A2 : Option Addr) (m : Nat) (w w' : World) : Prop where
  os : w'.os = w.os
  tape : w'.tape = w.tape
  output : w'.output = w.output
  size : w.heap.size ≤ w'.heap.size
  block : ∀ i, i < w.heap.size → i ≠ g → blk A ≠ some i → blk A2 ≠ some i → i ≠ m → w'.heap[i]? = w.heap[i]?

theorem LTurn.refl (g : Nat) (A A2 : Option Addr) (m : Nat) (w : World) : LTurn g A A2 m w w := ⟨rfl, rfl, rfl, Nat.le_refl _, fun _ _ _ _ _ _ => rfl⟩

theorem LTurn.of {g : Nat} {A A2 : Option Addr} {m : Nat} {w w' : World} (h : Below w.heap.size w w') : LTurn g A A2 m w w' := ⟨h.os, h.tape, h.output, h.size, fun i hi _ _ _ _ => h.block i hi⟩

theorem LTurn.step {g : Nat} {A A2 : Option Addr} {m : Nat} {w w' w2 : World} (h : LTurn g A A2 m w w') {row : Option Nat} (k : w'.grownBy w2 row) (hr : ∀ i, row = some i → i = g ∨ blk A = some i ∨ blk A2 = some i ∨ i = m ∨ w.heap.size ≤ i) : LTurn g A A2 m w w2 :=
  ⟨k.os.trans h.os, k.tape.trans h.tape, k.output.trans h.output, Nat.le_trans h.size k.size, fun i hi h1 h2 h3 h4 => (k.block i (Nat.lt_of_lt_of_le hi h.size) (fun e => by
    rcases hr i e.symm with e1 | e1 | e1 | e1 | e1
    · exact h1 e1
    · exact h2 e1
    · exact h3 e1
    · exact h4 e1
    · omega)).trans (h.block i hi h1 h2 h3 h4)⟩

theorem LTurn.setCell {g : Nat} {A A2 : Option Addr} {m : Nat} {w w' : World} (h : LTurn g A A2 m w w') {p : Addr} (hp : p.block = g ∨ w.heap.size ≤ p.block) (u : Value) : LTurn g A A2 m w (w'.setCell p u) :=
  h.step (row := some p.block) (grown_setCell (World.grownBy.refl _ _) p (.inl rfl) u) (fun i e => by
    injection e with e
    rcases hp with h1 | h1
    · exact .inl (by omega)
    · exact .inr (.inr (.inr (.inr (by omega)))))

theorem LTurn.next {g : Nat} {A A2 : Option Addr} {m : Nat} {w w' w2 : World} (h : LTurn g A A2 m w w') (k : Below w'.heap.size w' w2) : LTurn g A A2 m w w2 :=
  h.step (grown_of_below k none) (fun i e => by cases e)

theorem LTurn.trans {g : Nat} {A A2 A' A2' : Option Addr} {m : Nat} {w w' w2 : World} (h : LTurn g A A2 m w w') (k : LTurn g A' A2' m w' w2) (hA : blk A' = blk A ∨ ∀ b, blk A' = some b → w.heap.size ≤ b) (hA2 : blk A2' = blk A2 ∨ ∀ b, blk A2' = some b → w.heap.size ≤ b) : LTurn g A A2 m w w2 :=
  ⟨k.os.trans h.os, k.tape.trans h.tape, k.output.trans h.output, Nat.le_trans h.size k.size, fun i hi h1 h2 h3 h4 => (k.block i (Nat.lt_of_lt_of_le hi h.size) h1
    (fun e => by rcases hA with e1 | e1; (· exact h2 (e1 ▸ e)); (· have := e1 i e; omega))
    (fun e => by rcases hA2 with e1 | e1; (· exact h3 (e1 ▸ e)); (· have := e1 i e; omega)) h4).trans (h.block i hi h1 h2 h3 h4)⟩

theorem LTurn.below {g base : Nat} {A A2 : Option Addr} {m : Nat} {w w' : World} (h : LTurn g A A2 m w w') (hb : base ≤ w.heap.size) (hg : base ≤ g) (hm : base ≤ m) (h1 : ∀ b, blk A = some b → base ≤ b) (h2 : ∀ b, blk A2 = some b → base ≤ b) : Below base w w' :=
  ⟨h.os, h.tape, h.output, h.size, fun i hi => h.block i (by omega) (by omega) (fun e => by have := h1 i e; omega) (fun e => by have := h2 i e; omega) (by omega)⟩

/-- a ledger lies in block g: its state's ten cells and its map -/
structure Led (base g : Nat) (w : World) (s : GSt) (A : Option Addr) (c : Nat) (A2 : Option Addr) (c2 m n : Nat) : Prop where
  cs : Cells w g 0 [.int .i64 s.sq, .int .i64 s.fe, .slice A s.ents.length c, .slice A2 s.tmbs.length c2, .int .i64 s.lo.a, .int .i64 s.lo.b, .int .i64 s.lo.c, .int .i64 s.hi.a, .int .i64 s.hi.b, .int .i64 s.hi.c, .map (some m)]
  fr : ∀ i, w.frozen? ⟨g, i, none⟩ = false
  gb : base ≤ g
  gl : g < w.heap.size
  oe : OwnSl GEnt.vals 4 103 base w (.slice A s.ents.length c) s.ents
  ot : OwnSl GTmb.vals 2 108 base w (.slice A2 s.tmbs.length c2) s.tmbs
  mb : base ≤ m
  mp : TxtFn w m n (fun k => memB k (keysAll s))
  eg : blk A ≠ some g
  tg : blk A2 ≠ some g
  mg : m ≠ g
  em : blk A ≠ some m
  tm : blk A2 ≠ some m
  et : ∀ b, blk A = some b → blk A2 ≠ some b
  nb : n ≤ 8192 + s.sq.toNat
  bl : base ≤ w.heap.size

theorem own_kept {α : Type} {f : α → List Value} {k : Nat} {e : TypeId} {base n c : Nat} {A : Option Addr} {w w' : World} {xs : List α} (h : OwnSl f k e base w (.slice A n c) xs) (hb : ∀ b, blk A = some b → w'.heap[b]? = w.heap[b]?) : OwnSl f k e base w' (.slice A n c) xs := by
  refine ⟨h.1, ?_⟩
  rcases h.2 with h0 | ⟨g, cap, cur, e1, h1, h2, h3⟩
  · exact .inl h0
  · refine .inr ⟨g, cap, cur, e1, h1, (hb g ?_).trans h2, h3⟩
    injection e1 with e1
    rw [e1]; rfl

/-- a ledger is what it is while other blocks turn -/
theorem Led.kept {base g : Nat} {w w' : World} {s : GSt} {A : Option Addr} {c : Nat} {A2 : Option Addr} {c2 m n : Nat} (h : Led base g w s A c A2 c2 m n) (hb : Below w.heap.size w w') : Led base g w' s A c A2 c2 m n := by
  have hl := fun b (e : blk A = some b) => (World.ownsRow.lt h.oe b (by rw [ownBlock_blk]; exact e)).2
  have hl2 := fun b (e : blk A2 = some b) => (World.ownsRow.lt h.ot b (by rw [ownBlock_blk]; exact e)).2
  exact ⟨h.cs.below hb h.gl, fun i => (hb.frozen (p := ⟨g, i, none⟩) h.gl).trans (h.fr i), h.gb, Nat.lt_of_lt_of_le h.gl hb.size, own_kept h.oe (fun b e => hb.block b (hl b e)), own_kept h.ot (fun b e => hb.block b (hl2 b e)), h.mb, h.mp.kept (hb.block m h.mp.lt), h.eg, h.tg, h.mg, h.em, h.tm, h.et, h.nb, Nat.le_trans h.bl hb.size⟩

/-- what a ledger's state is, read -/
theorem Led.st {base g : Nat} {w : World} {s : GSt} {A : Option Addr} {c : Nat} {A2 : Option Addr} {c2 m n : Nat} (h : Led base g w s A c A2 c2 m n) : StAt w w.heap.size A A2 s ∧ StOwn base w A A2 ∧ s.ents.length ≤ c ∧ s.tmbs.length ≤ c2 := by
  obtain ⟨a1, a2, a3, a4⟩ := OwnSl.sl h.oe (fun _ => rfl)
  obtain ⟨b1, b2, b3, b4⟩ := OwnSl.sl h.ot (fun _ => rfl)
  exact ⟨⟨a1, b1⟩, ⟨a2, b2, a3, b3, h.et⟩, a4, b4⟩

theorem LTurn.led {g base : Nat} {w w' : World} {s : GSt} {A : Option Addr} {c : Nat} {A2 : Option Addr} {c2 m n : Nat} (h : LTurn g A A2 m w w') (k : Led base g w s A c A2 c2 m n) : Below base w w' :=
  h.below k.bl k.gb k.mb (fun b e => (World.ownsRow.lt k.oe b (by rw [ownBlock_blk]; exact e)).1) (fun b e => (World.ownsRow.lt k.ot b (by rw [ownBlock_blk]; exact e)).1)

end Go.Proofs.YtpfanmcjlfdaiaaGreatDoorR

/- Contracts of the program's copied and open: a state in memory of its own; a ledger. Conditions: lengths. -/
namespace Go.Proofs.YtpfanmcjlfdaiaaGreatDoorR
open Go.ChangeShapes Go.WideShapes Go.ChangeAt Go.RowKit Go.Deep Go.Joins Go.Maps
set_option linter.unusedVariables false
set_option linter.unusedSimpArgs false

set_option maxRecDepth 100000 in
set_option maxHeartbeats 2000000 in
theorem copied_any (A : Option Addr) (c : Nat) (A2 : Option Addr) (c2 : Nat) (s : GSt) (B : Nat) (w : World) (h : StAt w B A A2 s) (hB : B ≤ w.heap.size) (hl : s.ents.length ≤ 1048576) (hl2 : s.tmbs.length ≤ 1048576) :
    Calls Tryz.prog 32 #[.agg #[.int .i64 s.sq, .int .i64 s.fe, .slice A s.ents.length c, .slice A2 s.tmbs.length c2, .int .i64 s.lo.a, .int .i64 s.lo.b, .int .i64 s.lo.c, .int .i64 s.hi.a, .int .i64 s.hi.b, .int .i64 s.hi.c]] w (NewSttO s w) := by
  have H := Lib.hid h; clear h
  obtain ⟨W, hW⟩ : ∃ W, W = (w.alloc (.cells #[.int .i64 s.sq, .int .i64 s.fe, .slice A s.ents.length c, .slice A2 s.tmbs.length c2, .int .i64 s.lo.a, .int .i64 s.lo.b, .int .i64 s.lo.c, .int .i64 s.hi.a, .int .i64 s.hi.b, .int .i64 s.hi.c] 34)).alloc (.cells #[.int .i64 0, .int .i64 0, .slice none 0 0, .slice none 0 0, .int .i64 0, .int .i64 0, .int .i64 0, .int .i64 0, .int .i64 0, .int .i64 0] 34) := ⟨_, rfl⟩
  have ca : Cells W w.heap.size 0 [.int .i64 s.sq, .int .i64 s.fe, .slice A s.ents.length c, .slice A2 s.tmbs.length c2, .int .i64 s.lo.a, .int .i64 s.lo.b, .int .i64 s.lo.c, .int .i64 s.hi.a, .int .i64 s.hi.b, .int .i64 s.hi.c] := by rw [hW]; exact (Cells.new w _ _).below (bal (Below.refl _ _) _) (by simp)
  have cz : Cells W (w.heap.size + 1) 0 [.int .i64 0, .int .i64 0, .slice none 0 0, .slice none 0 0, .int .i64 0, .int .i64 0, .int .i64 0, .int .i64 0, .int .i64 0, .int .i64 0] := by
    rw [hW]; have := Cells.new (w.alloc (.cells #[.int .i64 s.sq, .int .i64 s.fe, .slice A s.ents.length c, .slice A2 s.tmbs.length c2, .int .i64 s.lo.a, .int .i64 s.lo.b, .int .i64 s.lo.c, .int .i64 s.hi.a, .int .i64 s.hi.b, .int .i64 s.hi.c] 34)) [.int .i64 0, .int .i64 0, .slice none 0 0, .slice none 0 0, .int .i64 0, .int .i64 0, .int .i64 0, .int .i64 0, .int .i64 0, .int .i64 0] 34; simpa using this
  have fa : ∀ i, W.frozen? ⟨w.heap.size, i, none⟩ = false := fun i => by
    rw [hW]; exact (Free.below (free_alloc w #[.int .i64 s.sq, .int .i64 s.fe, .slice A s.ents.length c, .slice A2 s.tmbs.length c2, .int .i64 s.lo.a, .int .i64 s.lo.b, .int .i64 s.lo.c, .int .i64 s.hi.a, .int .i64 s.hi.b, .int .i64 s.hi.c] 34 0) (bal (Below.refl _ _) _) (fun b e => by simp [blk] at e; subst e; simp)) _ rfl i
  have fz : ∀ i, W.frozen? ⟨w.heap.size + 1, i, none⟩ = false := fun i => by rw [hW]; simp [go_sem]
  have b0 : Below w.heap.size w W := by rw [hW]; exact bal (bal (Below.refl _ _) _) _
  have s0 : W.heap.size = w.heap.size + 2 := by rw [hW]; simp
  have HW := Lib.hid hW; clear hW
  have CA := Lib.hid ca; have CZ := Lib.hid cz; have FA := Lib.hid fa; have FZ := Lib.hid fz
  clear ca cz fa fz
  go_enter Tryz.func32, Tryz.ntmps32
  go_wp2_with fail
  rw [← HW.out]
  refine (cloneEnt_any A c s.ents B W (Sl.below H.out.1 b0 hB) (Nat.le_trans hB b0.size) hl).mono ?_
  rintro e w1 ⟨A1, k1, rfl, ho1, hb1⟩
  have ca1 := CA.out.below hb1 (by omega)
  have f2 := (hb1.frozen (p := ⟨w.heap.size, 2, none⟩) (by show w.heap.size < _; omega)).trans (FA.out 2)
  have x2 := ca1 2 _ rfl
  have x3 := ca1 3 _ rfl
  simp only [Nat.zero_add] at x2 x3
  have s1 : W.heap.size ≤ w1.heap.size := hb1.size
  have HO1 := Lib.hid ho1; clear ho1
  have CA1 := Lib.hid ca1; clear ca1
  have zs : (w1.setCell ⟨w.heap.size, 2, none⟩ (.slice A1 s.ents.length k1)).heap.size = w1.heap.size := size_setCell _ _ _
  have b1s : Below w.heap.size w (w1.setCell ⟨w.heap.size, 2, none⟩ (.slice A1 s.ents.length k1)) := (b0.trans (hb1.mono (by omega))).setCell (Nat.le_refl _) _
  go_wp2_with fail
  refine (cloneTmb_any A2 c2 s.tmbs B _ (Sl.below H.out.2 b1s hB) (by rw [zs]; omega) hl2).mono ?_
  rintro e w2 ⟨A3, k3, rfl, ho3, hb2⟩
  rw [zs] at hb2 ho3
  have s2 : w1.heap.size ≤ w2.heap.size := by have := hb2.size; omega
  have o1 : OwnSl GEnt.vals 4 103 (w.heap.size + 2) w2 (.slice A1 s.ents.length k1) s.ents := by
    have o := OwnSl.farO HO1.out (p := ⟨w.heap.size, 2, none⟩) (by show w.heap.size < W.heap.size; omega) (.slice A1 s.ents.length k1)
    rw [s0] at o
    exact OwnSl.below o (by rw [zs]; exact hb2)
  have o3 : OwnSl GTmb.vals 2 108 (w.heap.size + 2) w2 (.slice A3 s.tmbs.length k3) s.tmbs := OwnSl.monoO ho3 (by omega)
  have l1 := World.ownsRow.lt HO1.out
  have l3 := World.ownsRow.lt ho3
  have hne : ∀ b, blk A1 = some b → blk A3 ≠ some b := fun b e e3 => by
    have h1 := l1 b (by rw [ownBlock_blk]; exact e)
    have h3 := l3 b (by rw [ownBlock_blk]; exact e3)
    omega
  have q1 := OwnSl.sl o1 (fun _ => rfl)
  have q3 := OwnSl.sl o3 (fun _ => rfl)
  have FIN := Lib.hid (fin_ownO (w := w) (by omega) q1.1 q1.2.1 q1.2.2.1 q1.2.2.2 q3.1 q3.2.1 q3.2.2.1 q3.2.2.2 hne (b1s.trans (hb2.mono (by omega))) o1 o3)
  have ca2 := (CA1.out.set (k := 2) (by simp) (.slice A1 s.ents.length k1)).below hb2 (by omega)
  have cz2 := ((CZ.out.below hb1 (by omega)).far (p := ⟨w.heap.size, 2, none⟩) (by show w.heap.size + 1 ≠ w.heap.size; omega) (.slice A1 s.ents.length k1)).below hb2 (by omega)
  have f3 := (hb2.frozen (p := ⟨w.heap.size, 3, none⟩) (by show w.heap.size < _; omega)).trans ((frozen_setCell _ _ _ _).trans ((hb1.frozen (p := ⟨w.heap.size, 3, none⟩) (by show w.heap.size < _; omega)).trans (FA.out 3)))
  simp only [Nat.zero_add, List.set_cons_succ, List.set_cons_zero] at ca2
  clear x2 x3 f2
  have x0 := ca2 0 _ rfl; have z0 := cz2 0 _ rfl; have y0 := (hb2.frozen (p := ⟨w.heap.size + 1, 0, none⟩) (by show w.heap.size + 1 < _; omega)).trans ((frozen_setCell _ _ _ _).trans ((hb1.frozen (p := ⟨w.heap.size + 1, 0, none⟩) (by show w.heap.size + 1 < _; omega)).trans (FZ.out 0))); have x1 := ca2 1 _ rfl; have z1 := cz2 1 _ rfl; have y1 := (hb2.frozen (p := ⟨w.heap.size + 1, 1, none⟩) (by show w.heap.size + 1 < _; omega)).trans ((frozen_setCell _ _ _ _).trans ((hb1.frozen (p := ⟨w.heap.size + 1, 1, none⟩) (by show w.heap.size + 1 < _; omega)).trans (FZ.out 1))); have x2 := ca2 2 _ rfl; have z2 := cz2 2 _ rfl; have y2 := (hb2.frozen (p := ⟨w.heap.size + 1, 2, none⟩) (by show w.heap.size + 1 < _; omega)).trans ((frozen_setCell _ _ _ _).trans ((hb1.frozen (p := ⟨w.heap.size + 1, 2, none⟩) (by show w.heap.size + 1 < _; omega)).trans (FZ.out 2))); have x3 := ca2 3 _ rfl; have z3 := cz2 3 _ rfl; have y3 := (hb2.frozen (p := ⟨w.heap.size + 1, 3, none⟩) (by show w.heap.size + 1 < _; omega)).trans ((frozen_setCell _ _ _ _).trans ((hb1.frozen (p := ⟨w.heap.size + 1, 3, none⟩) (by show w.heap.size + 1 < _; omega)).trans (FZ.out 3))); have x4 := ca2 4 _ rfl; have z4 := cz2 4 _ rfl; have y4 := (hb2.frozen (p := ⟨w.heap.size + 1, 4, none⟩) (by show w.heap.size + 1 < _; omega)).trans ((frozen_setCell _ _ _ _).trans ((hb1.frozen (p := ⟨w.heap.size + 1, 4, none⟩) (by show w.heap.size + 1 < _; omega)).trans (FZ.out 4))); have x5 := ca2 5 _ rfl; have z5 := cz2 5 _ rfl; have y5 := (hb2.frozen (p := ⟨w.heap.size + 1, 5, none⟩) (by show w.heap.size + 1 < _; omega)).trans ((frozen_setCell _ _ _ _).trans ((hb1.frozen (p := ⟨w.heap.size + 1, 5, none⟩) (by show w.heap.size + 1 < _; omega)).trans (FZ.out 5))); have x6 := ca2 6 _ rfl; have z6 := cz2 6 _ rfl; have y6 := (hb2.frozen (p := ⟨w.heap.size + 1, 6, none⟩) (by show w.heap.size + 1 < _; omega)).trans ((frozen_setCell _ _ _ _).trans ((hb1.frozen (p := ⟨w.heap.size + 1, 6, none⟩) (by show w.heap.size + 1 < _; omega)).trans (FZ.out 6))); have x7 := ca2 7 _ rfl; have z7 := cz2 7 _ rfl; have y7 := (hb2.frozen (p := ⟨w.heap.size + 1, 7, none⟩) (by show w.heap.size + 1 < _; omega)).trans ((frozen_setCell _ _ _ _).trans ((hb1.frozen (p := ⟨w.heap.size + 1, 7, none⟩) (by show w.heap.size + 1 < _; omega)).trans (FZ.out 7))); have x8 := ca2 8 _ rfl; have z8 := cz2 8 _ rfl; have y8 := (hb2.frozen (p := ⟨w.heap.size + 1, 8, none⟩) (by show w.heap.size + 1 < _; omega)).trans ((frozen_setCell _ _ _ _).trans ((hb1.frozen (p := ⟨w.heap.size + 1, 8, none⟩) (by show w.heap.size + 1 < _; omega)).trans (FZ.out 8))); have x9 := ca2 9 _ rfl; have z9 := cz2 9 _ rfl; have y9 := (hb2.frozen (p := ⟨w.heap.size + 1, 9, none⟩) (by show w.heap.size + 1 < _; omega)).trans ((frozen_setCell _ _ _ _).trans ((hb1.frozen (p := ⟨w.heap.size + 1, 9, none⟩) (by show w.heap.size + 1 < _; omega)).trans (FZ.out 9)))
  simp only [Nat.zero_add] at x0 z0 x1 z1 x2 z2 x3 z3 x4 z4 x5 z5 x6 z6 x7 z7 x8 z8 x9 z9
  clear q1 q3 o1 o3 ho3 hne l1 l3 ca2 cz2 hb1 hb2 b1s b0
  go_wp2
  refine bodyPost_ret (v := .agg #[.int .i64 s.sq, .int .i64 s.fe, .slice A1 s.ents.length k1, .slice A3 s.tmbs.length k3, .int .i64 s.lo.a, .int .i64 s.lo.b, .int .i64 s.lo.c, .int .i64 s.hi.a, .int .i64 s.hi.b, .int .i64 s.hi.c]) (by simp [results, Tryz.results32, go_sem, *]) rfl FIN.out

theorem rngL {w w' : World} {b B : Nat} {L : List Value} (h : Cells w b 0 L) (hb : Below B w w') (hB : b < B) : w'.rangeAt b 0 L := fun j v hv => h.below hb hB j v hv

theorem infoStt : (Tryz.prog.info? 34).map (·.size) = some 10 := by kernel_rfl

set_option maxRecDepth 100000 in
set_option maxHeartbeats 4000000 in
theorem open_any (A : Option Addr) (c : Nat) (A2 : Option Addr) (c2 : Nat) (s : GSt) (B : Nat) (w : World) (h : StAt w B A A2 s) (hB : B ≤ w.heap.size) (hf : ∀ o ∈ s.ents, o.fit) (hf2 : ∀ o ∈ s.tmbs, o.fit) (hl : s.ents.length ≤ 1048576) (hl2 : s.tmbs.length ≤ 1048576) (hn : s.ents.length + s.tmbs.length ≤ 8192) :
    Calls Tryz.prog 33 #[.agg #[.int .i64 s.sq, .int .i64 s.fe, .slice A s.ents.length c, .slice A2 s.tmbs.length c2, .int .i64 s.lo.a, .int .i64 s.lo.b, .int .i64 s.lo.c, .int .i64 s.hi.a, .int .i64 s.hi.b, .int .i64 s.hi.c]] w fun e w' => ∃ (g : Nat) (A1 : Option Addr) (k1 : Nat) (A3 : Option Addr) (k3 m n : Nat), e = .returned (.pointer (some ⟨g, 0, none⟩)) ∧ Led w.heap.size g w' s A1 k1 A3 k3 m n ∧ Below w.heap.size w w' := by
  have H := Lib.hid h; clear h
  have Hf := Lib.hid hf; clear hf
  have Hf2 := Lib.hid hf2; clear hf2
  go_enter Tryz.func33, Tryz.ntmps33
  go_upto_region 1 with fail
  obtain ⟨W, hW⟩ : ∃ W, W = w.alloc (.cells #[.int .i64 s.sq, .int .i64 s.fe, .slice A s.ents.length c, .slice A2 s.tmbs.length c2, .int .i64 s.lo.a, .int .i64 s.lo.b, .int .i64 s.lo.c, .int .i64 s.hi.a, .int .i64 s.hi.b, .int .i64 s.hi.c] 34) := ⟨_, rfl⟩
  obtain ⟨LV, hLV⟩ : ∃ L : List Value, L = [.int .i64 s.sq, .int .i64 s.fe, .slice A s.ents.length c, .slice A2 s.tmbs.length c2, .int .i64 s.lo.a, .int .i64 s.lo.b, .int .i64 s.lo.c, .int .i64 s.hi.a, .int .i64 s.hi.b, .int .i64 s.hi.c] := ⟨_, rfl⟩
  have HNV : Hid (LV.length = 10) := Lib.hid (by rw [hLV]; rfl)
  have EV : Hid (Value.agg LV.toArray = .agg #[.int .i64 s.sq, .int .i64 s.fe, .slice A s.ents.length c, .slice A2 s.tmbs.length c2, .int .i64 s.lo.a, .int .i64 s.lo.b, .int .i64 s.lo.c, .int .i64 s.hi.a, .int .i64 s.hi.b, .int .i64 s.hi.c]) := Lib.hid (by rw [hLV])
  have CV : Hid (Cells W w.heap.size 0 LV) := Lib.hid (by rw [hW, hLV]; exact Cells.new w _ _)
  have b0 : Below w.heap.size w W := by rw [hW]; exact bal (Below.refl _ _) _
  have s0 : w.heap.size < W.heap.size := by rw [hW]; simp
  rw [← hW]
  clear hW hLV
  generalize (Value.agg #[.int .i64 s.sq, .int .i64 s.fe, .slice A s.ents.length c, .slice A2 s.tmbs.length c2, .int .i64 s.lo.a, .int .i64 s.lo.b, .int .i64 s.lo.c, .int .i64 s.hi.a, .int .i64 s.hi.b, .int .i64 s.hi.c]) = va
  refine wp_region_noPanic ?_
  refine wp_region_held_drew (S := fun w' => w'.rangeAt w.heap.size 0 LV) (by kernel_rfl) (by exact rngL CV.out (Below.refl W.heap.size W).drew s0) (fun hHeld => ?_)
  refine' wpAnyH_take (i := 0) (oi := { dst := some 3, op := Op.load 34 (Operand.tmp 1), type := 34, pos := "l06_manifest.go:251", after := #[], guard := none }) (v := _) rfl (by kernel_rfl) (by kernel_rfl) (by kernel_rfl) (fun _ _ _ h => h) (yieldsIf_load_mid (by rfl) _ _ rfl _ _ rfl LV _ ?hSo0 ?huo0 ?hdo0 ?hio0) (by assumption) ?resto0
  case hSo0 => exact fun w hSw => hSw
  case huo0 => exact Tryz.underlying34
  case hdo0 => rfl
  case hio0 => exact infoStt.trans (by rw [HNV.out])
  try simp only [Act.put, List.setIfInBounds_toArray, List.set_cons_zero, List.set_cons_succ]
  refine' wpAnyH_take (i := 2) (oi := { dst := some 5, op := Op.load 34 (Operand.tmp 1), type := 34, pos := "l06_manifest.go:251", after := #[], guard := none }) (v := _) rfl (by kernel_rfl) (by kernel_rfl) (by kernel_rfl) (fun _ _ _ h => h) (yieldsIf_load_mid (by rfl) _ _ rfl _ _ rfl LV _ ?hSo2 ?huo2 ?hdo2 ?hio2) (by assumption) ?resto2
  case hSo2 => exact fun w hSw => hSw
  case huo2 => exact Tryz.underlying34
  case hdo2 => rfl
  case hio2 => exact infoStt.trans (by rw [HNV.out])
  try simp only [Act.put, List.setIfInBounds_toArray, List.set_cons_zero, List.set_cons_succ]
  refine wpAnyH_ready (rs := [1]) (by kernel_rfl) (by simp) ?_
  refine AllReadyH.cons (o := { dst := some 4, op := Op.call { callee := Callee.value (Operand.func 32), args := #[Operand.tmp 3], argTypes := #[34] }, type := 34, pos := "l06_manifest.go:251", after := #[{ on := 0, ground := Ground.data }], guard := none }) rfl (fun K hK => ?_) AllReadyH.nil
  go_simp
  have hqz : Calls Tryz.prog 32 #[.agg LV.toArray] W.drew (NewSttO s W.drew) := by
    rw [EV.out]; exact copied_any A c A2 c2 s B W.drew (H.out.below b0.drew hB) (Nat.le_trans hB b0.size) hl hl2
  refine hqz.mono ?_
  rintro e w1 ⟨A1, k1, A3, k3, rfl, ho1, ho3, hne, hb1', hz1⟩
  clear hqz
  have HO1 := Lib.hid ho1; have HO3 := Lib.hid ho3; have HNE := Lib.hid hne; clear ho1 ho3 hne
  have hb1 : Below W.heap.size W w1 := (Below.refl _ _).drew.trans hb1'
  clear hb1'
  have hdr : W.drew.heap.size = W.heap.size := rfl
  have b1 : Below w.heap.size w w1 := b0.trans (hb1.mono (Nat.le_of_lt s0))
  refine hK.out _ _ (by exact rngL CV.out hb1 s0) (fun hHeld => ?_)
  clear hK K
  try simp only [Act.put, List.setIfInBounds_toArray, List.set_cons_zero, List.set_cons_succ]
  refine wpAnyH_ready (rs := [3]) (by kernel_rfl) (by simp) ?_
  refine AllReadyH.cons (o := { dst := some 6, op := Op.call { callee := Callee.value (Operand.func 65), args := #[Operand.tmp 5], argTypes := #[34] }, type := 71, pos := "l06_manifest.go:251", after := #[{ on := 2, ground := Ground.data }, { on := 1, ground := Ground.chain }], guard := none }) rfl (fun K hK => ?_) AllReadyH.nil
  go_simp
  have hqk : Calls Tryz.prog 65 #[.agg LV.toArray] w1 (fun e w' => ∃ m, e = .returned (.map (some m)) ∧ TxtSet w' m (keysR s.ents s.tmbs s.ents.length s.tmbs.length) ∧ w1.heap.size ≤ m ∧ Below w1.heap.size w1 w') := by
    rw [EV.out]; exact stKeys_any A c A2 c2 s B w1 (H.out.below b1 hB) (Nat.le_trans hB b1.size) Hf.out Hf2.out hl hl2
  refine hqk.mono ?_
  rintro e w2 ⟨m, rfl, hm, hm1, hb2⟩
  clear hqk
  have HM := Lib.hid hm; clear hm
  have hbz : Below W.heap.size W w2 := hb1.trans (hb2.mono hb1.size)
  refine hK.out _ _ (by exact rngL CV.out hbz s0) (fun hHeld => ?_)
  clear hK K
  try simp only [Act.put, List.setIfInBounds_toArray, List.set_cons_zero, List.set_cons_succ]
  refine wpAnyH_take (i := 4) (oi := { dst := some 7, op := Op.build 73 #[(0, Operand.tmp 4), (1, Operand.tmp 6)], type := 73, pos := "l06_manifest.go:251", after := #[{ on := 1, ground := Ground.data }, { on := 3, ground := Ground.data }], guard := none }) (v := ?vo4) rfl (by kernel_rfl) (by kernel_rfl) (by kernel_rfl) (fun _ _ _ h => h) (Or.inl ⟨by rfl, ?hyo4⟩) (by assumption) ?resto4
  case hyo4 => intro w hSw; (try dsimp only at hSw); (first | (go_simp; done) | (go_simp; with_reducible rfl) | (with_reducible rfl))
  try simp only [Act.put, List.setIfInBounds_toArray, List.set_cons_zero, List.set_cons_succ]
  refine wpAnyH_ready (rs := [5]) (by kernel_rfl) (by simp) ?_
  refine AllReadyH.cons (o := { dst := some 8, op := Op.box 73 (Operand.tmp 7), type := 69, pos := "l06_manifest.go:251", after := #[{ on := 4, ground := Ground.data }], guard := none }) rfl (fun K hK => ?_) AllReadyH.nil
  go_simp
  refine hK.out _ _ (by exact rngL CV.out (hbz.alloc hbz.size _) s0) (fun hHeld => ?_)
  clear hK K
  try simp only [Act.put, List.setIfInBounds_toArray, List.set_cons_zero, List.set_cons_succ]
  refine wpAnyH_take (i := 6) (oi := { dst := some 2, op := Op.assign (Operand.tmp 8), type := 69, pos := "l06_manifest.go:251", after := #[{ on := 5, ground := Ground.data }, { on := 3, ground := Ground.chain }, { on := 0, ground := Ground.phase }, { on := 1, ground := Ground.phase }, { on := 2, ground := Ground.phase }, { on := 3, ground := Ground.phase }, { on := 4, ground := Ground.phase }, { on := 5, ground := Ground.phase }], guard := none }) (v := ?vo6) rfl (by kernel_rfl) (by kernel_rfl) (by kernel_rfl) (fun _ _ _ h => h) (Or.inl ⟨by rfl, ?hyo6⟩) (by assumption) ?resto6
  case hyo6 => intro w hSw; (try dsimp only at hSw); (first | (go_simp; done) | (go_simp; with_reducible rfl) | (with_reducible rfl))
  try simp only [Act.put, List.setIfInBounds_toArray, List.set_cons_zero, List.set_cons_succ]
  refine wpAnyH_done (by kernel_rfl) ?_ _
  refine NoPanic.normal ?_
  clear hHeld
  have zl : Below w.heap.size w (w2.alloc (.cells #[.int .i64 s.sq, .int .i64 s.fe, .slice A1 s.ents.length k1, .slice A3 s.tmbs.length k3, .int .i64 s.lo.a, .int .i64 s.lo.b, .int .i64 s.lo.c, .int .i64 s.hi.a, .int .i64 s.hi.b, .int .i64 s.hi.c, .map (some m)] 73)) := (b1.trans (hb2.mono b1.size)).alloc (by have := hbz.size; omega) _
  have l1 := fun b (e : blk A1 = some b) => (World.ownsRow.lt HO1.out b (by rw [ownBlock_blk]; exact e))
  have l3 := fun b (e : blk A3 = some b) => (World.ownsRow.lt HO3.out b (by rw [ownBlock_blk]; exact e))
  have hs2 := hb2.size
  have hs1 := hb1.size
  have hmlt := TxtSet.lt HM.out
  have FIN : Hid (Led w.heap.size w2.heap.size (w2.alloc (.cells #[.int .i64 s.sq, .int .i64 s.fe, .slice A1 s.ents.length k1, .slice A3 s.tmbs.length k3, .int .i64 s.lo.a, .int .i64 s.lo.b, .int .i64 s.lo.c, .int .i64 s.hi.a, .int .i64 s.hi.b, .int .i64 s.hi.c, .map (some m)] 73)) s A1 k1 A3 k3 m (s.ents.length + s.tmbs.length)) := Lib.hid (by
    refine ⟨Cells.new w2 _ _, fun i => by simp [go_sem], by omega, by simp, ?_, ?_, by omega, ?_, fun e => ?_, fun e => ?_, by omega, fun e => ?_, fun e => ?_, HNE.out, by omega, by simp; omega⟩
    · exact World.ownsRow.alloc (OwnSl.monoO (OwnSl.below HO1.out hb2) (by omega)) _
    · exact World.ownsRow.alloc (OwnSl.monoO (OwnSl.below HO3.out hb2) (by omega)) _
    · have k := TxtFn.of HM.out
      rw [keysR_len _ _ _ _ (Nat.le_refl _) (Nat.le_refl _)] at k
      exact k.kept (Below.heap_alloc _ _ _ hmlt)
    · have := (l1 _ e).2; omega
    · have := (l3 _ e).2; omega
    · have := (l1 _ e).2; omega
    · have := (l3 _ e).2; omega)
  clear l1 l3 HO1 HO3 HM HNE hb1 hb2 hbz hdr
  go_wp2
  go_ret
  exact ⟨w2.heap.size, A1, k1, A3, k3, m, s.ents.length + s.tmbs.length, rfl, FIN.out, zl⟩

end Go.Proofs.YtpfanmcjlfdaiaaGreatDoorR

/- When a ledger takes a record: contracts of takesAdd, takesClaim, takesPublish, takesRetire, takesPurge and tombOf. Conditions: sizes of keys, lengths, the program's tables. -/
namespace Go.Proofs.YtpfanmcjlfdaiaaGreatDoorR
open Go.ChangeShapes Go.WideShapes Go.ChangeAt Go.RowKit Go.Deep Go.Joins Go.Maps
set_option linter.unusedVariables false
set_option linter.unusedSimpArgs false

theorem cells11 {w : World} {b : Nat} {v0 v1 v2 v3 v4 v5 v6 v7 v8 v9 v10 : Value} (h : Cells w b 0 [v0, v1, v2, v3, v4, v5, v6, v7, v8, v9, v10]) :
    w.cell? ⟨b, 0, none⟩ = some v0 ∧ w.cell? ⟨b, 1, none⟩ = some v1 ∧ w.cell? ⟨b, 2, none⟩ = some v2 ∧ w.cell? ⟨b, 3, none⟩ = some v3 ∧ w.cell? ⟨b, 4, none⟩ = some v4 ∧ w.cell? ⟨b, 5, none⟩ = some v5 ∧ w.cell? ⟨b, 6, none⟩ = some v6 ∧ w.cell? ⟨b, 7, none⟩ = some v7 ∧ w.cell? ⟨b, 8, none⟩ = some v8 ∧ w.cell? ⟨b, 9, none⟩ = some v9 ∧ w.cell? ⟨b, 10, none⟩ = some v10 := ⟨h 0 _ rfl, h 1 _ rfl, h 2 _ rfl, h 3 _ rfl, h 4 _ rfl, h 5 _ rfl, h 6 _ rfl, h 7 _ rfl, h 8 _ rfl, h 9 _ rfl, h 10 _ rfl⟩

theorem key_of {key : ByteArray} {t n m cd : Int} (h : KeyCode key t n m cd) (hk : AnyKey key) : IsKey key t n m := by
  rcases h with ⟨h, _⟩ | ⟨_, h, _⟩ | ⟨_, h, _⟩
  · obtain ⟨t', n', m', hk⟩ := hk
    have := isKey_size hk
    omega
  · exact h
  · obtain ⟨t', n', m', hk⟩ := hk
    exact absurd hk (h _ _ _)

def TakeA (s : GSt) (r : GRec) : Prop := (∃ t m, IsKey r.key t s.sq m) ∧ r.beg = s.hi.a ∧ r.key ∉ keysAll s

theorem memB_no {k : ByteArray} {ks : List ByteArray} (h : memB k ks = false) : k ∉ ks := fun e => by rw [memB_iff.2 e] at h; cases h

theorem takesClaim_any (base g : Nat) (s : GSt) (A : Option Addr) (c : Nat) (A2 : Option Addr) (c2 m n : Nat) (w : World) (hL : Led base g w s A c A2 c2 m n) (r : GRec) :
    Calls Tryz.prog 97 #[.pointer (some ⟨g, 0, none⟩), .agg #[.int .i64 r.kind, .int .i64 r.tok, .int .i64 r.tier, .int .i64 r.beg, .int .i64 r.fin, .string r.key]] w (IsBB (s.fe < r.tok) w) := by
  have hgl := hL.gl
  obtain ⟨k0, k1, k2, k3, k4, k5, k6, k7, k8, k9, k10⟩ := cells11 hL.cs
  clear hL k0 k2 k3 k4 k5 k6 k7 k8 k9 k10
  go_enter Tryz.func97, Tryz.ntmps97
  go_wp2_with fail
  obtain ⟨W, hW⟩ : ∃ W, W = w.alloc (.cells #[.int .i64 r.kind, .int .i64 r.tok, .int .i64 r.tier, .int .i64 r.beg, .int .i64 r.fin, .string r.key] 38) := ⟨_, rfl⟩
  have cr : Cells W w.heap.size 0 [.int .i64 r.kind, .int .i64 r.tok, .int .i64 r.tier, .int .i64 r.beg, .int .i64 r.fin, .string r.key] := by rw [hW]; exact Cells.new w _ _
  have b0 : Below w.heap.size w W := by rw [hW]; exact bal (Below.refl _ _) _
  have s0 : w.heap.size < W.heap.size := by rw [hW]; simp
  rw [← hW]
  clear hW
  have CR := Lib.hid cr; clear cr
  have q1 := (b0.cell (p := ⟨g, 1, none⟩) hgl).trans k1
  have r1 := CR.out 1 _ rfl
  simp only [Nat.zero_add] at r1
  clear k1
  go_quiet (fail)
  go_wp2
  go_ret
  exact ⟨_, by simp, rfl, bdrewB b0 _⟩

set_option maxRecDepth 100000 in
theorem takesAdd_any (base g : Nat) (s : GSt) (A : Option Addr) (c : Nat) (A2 : Option Addr) (c2 m n : Nat) (w : World) (hL : Led base g w s A c A2 c2 m n) (r : GRec) (hk : AnyKey r.key) (hp : Paths w) (hz : 1 < w.heap.size) :
    Calls Tryz.prog 94 #[.pointer (some ⟨g, 0, none⟩), .agg #[.int .i64 r.kind, .int .i64 r.tok, .int .i64 r.tier, .int .i64 r.beg, .int .i64 r.fin, .string r.key]] w (IsBB (TakeA s r) w) := by
  have HL := Lib.hid hL; clear hL
  have HK := Lib.hid hk; clear hk
  have hks : r.key.size ≤ 17 := by obtain ⟨t, n, m, h⟩ := HK.out; exact isKey_size h
  have Hp := Lib.hid hp; clear hp
  go_enter Tryz.func94, Tryz.ntmps94
  go_wp2_with fail
  obtain ⟨W, hW⟩ : ∃ W, W = w.alloc (.cells #[.int .i64 r.kind, .int .i64 r.tok, .int .i64 r.tier, .int .i64 r.beg, .int .i64 r.fin, .string r.key] 38) := ⟨_, rfl⟩
  have cr : Cells W w.heap.size 0 [.int .i64 r.kind, .int .i64 r.tok, .int .i64 r.tier, .int .i64 r.beg, .int .i64 r.fin, .string r.key] := by rw [hW]; exact Cells.new w _ _
  have b0 : Below w.heap.size w W := by rw [hW]; exact bal (Below.refl _ _) _
  have s0 : w.heap.size < W.heap.size := by rw [hW]; simp
  rw [← hW]
  clear hW
  have CR := Lib.hid cr; clear cr
  refine (readKey_any r.key W (by omega) (Hp.out.below b0 hz) (Nat.lt_of_lt_of_le hz b0.size)).mono ?_
  rintro e w2 ⟨t, nn, mm, cd, rfl, hkc, hb2⟩
  have HI := Lib.hid (key_of hkc HK.out); clear hkc
  have b2 : Below w.heap.size w w2 := bnext b0 hb2
  have hgl := HL.out.gl
  obtain ⟨k0, k1, k2, k3, k4, k5, k6, k7, k8, k9, k10⟩ := cells11 (HL.out.kept b2).cs
  have cr := CR.out.below hb2 s0
  have r3 := cr 3 _ rfl
  have r5 := cr 5 _ rfl
  simp only [Nat.zero_add] at r3 r5
  have hm : TxtFn w2 m n (fun k => memB k (keysAll s)) := (HL.out.kept b2).mp
  have hlk : ∀ j, (Instr.lookup 71 (.map (some m)) (.string r.key) false).run Tryz.prog (w2.drewN j) = .ok (.bool (memB r.key (keysAll s))) (w2.drewN j) := fun j => TxtFn.look (show TxtFn (w2.drewN j) m n (fun k => memB k (keysAll s)) from hm) (by omega)
  clear hm cr k1 k2 k3 k4 k5 k6 k8 k9 hb2 b0 s0
  cases d1 : memB r.key (keysAll s)
  rotate_left
  · rw [d1] at hlk
    have Hn : Hid (¬ TakeA s r) := Lib.hid (fun h => h.2.2 (memB_iff.1 d1))
    go_wp2_with fail
    go_quiet (fail)
    go_wp2
    go_ret
    exact ⟨false, by simp [Hn.out], rfl, bdrewB b2 _⟩
  rw [d1] at hlk
  by_cases d2 : r.beg = s.hi.a
  rotate_left
  · have u2 : (r.beg == s.hi.a) = false := by simpa using d2
    have Hn : Hid (¬ TakeA s r) := Lib.hid (fun h => d2 h.2.1)
    go_wp2_with fail
    go_quiet (fail)
    go_wp2
    go_ret
    exact ⟨false, by simp [Hn.out], rfl, bdrewB b2 _⟩
  have u2 : (r.beg == s.hi.a) = true := by simpa using d2
  have Hi : Hid ((nn == s.sq) = true ↔ TakeA s r) := Lib.hid (by
    constructor
    · intro h
      have e : nn = s.sq := by simpa using h
      exact ⟨⟨t, mm, e ▸ HI.out⟩, d2, memB_no d1⟩
    · rintro ⟨⟨t', m', h⟩, _⟩
      have := (isKey_one h HI.out).2.1
      simp [this])
  go_wp2_with fail
  go_quiet (fail)
  go_wp2
  go_ret
  exact ⟨_, Hi.out, rfl, bdrewB b2 _⟩

end Go.Proofs.YtpfanmcjlfdaiaaGreatDoorR

/- Contracts of tombOf, of slices.IndexFunc over tombs, and of takesPurge. Conditions: lengths, sizes of keys. -/
namespace Go.Proofs.YtpfanmcjlfdaiaaGreatDoorR
open Go.ChangeShapes Go.WideShapes Go.ChangeAt Go.RowKit Go.Deep Go.Joins Go.Maps
set_option linter.unusedVariables false
set_option linter.unusedSimpArgs false

/-- the place of the first tomb that has a key, or -1 -/
def TombIx (ts : List GTmb) (key : ByteArray) (i : Int) : Prop :=
  (i = -1 ∧ ∀ t ∈ ts, t.key ≠ key) ∨ (∃ (k : Nat) (h : k < ts.length), i = k ∧ ts[k].key = key)

theorem tombOf1_any (e : GTmb) (key : ByteArray) (y : Nat) (w : World) (h : w.cell? ⟨y, 0, none⟩ = some (.string key)) (hy : y < w.heap.size) :
    Calls Tryz.prog 141 #[.agg #[.int .i64 e.seq, .string e.key], .pointer (some ⟨y, 0, none⟩)] w fun r w' => r = .returned (.bool (decide (e.key = key))) ∧ Below w.heap.size w w' := by
  have h2 : (w.alloc (.cells #[.int .i64 e.seq, .string e.key] 108)).cell? ⟨y, 0, none⟩ = some (.string key) := (Below.cell (bal (Below.refl w.heap.size w) _) (p := ⟨y, 0, none⟩) hy).trans h
  have b0 : Below w.heap.size w (w.alloc (.cells #[.int .i64 e.seq, .string e.key] 108)) := bal (Below.refl _ _) _
  by_cases hk : e.key = key
  · have u : (e.key.toList == key.toList) = true := by rw [hk]; simp
    have D : Hid (decide (e.key = key) = true) := Lib.hid (decide_eq_true hk)
    clear hk
    go_enter Tryz.func141, Tryz.ntmps141
    go_wp2
    go_ret
    exact ⟨by rw [D.out]; rfl, b0⟩
  · have u : (e.key.toList == key.toList) = false := ne_list hk
    have D : Hid (decide (e.key = key) = false) := Lib.hid (decide_eq_false hk)
    clear hk
    go_enter Tryz.func141, Tryz.ntmps141
    go_wp2
    go_ret
    exact ⟨by rw [D.out]; rfl, b0⟩

set_option maxRecDepth 100000 in
theorem indexTomb_any (A : Option Addr) (c : Nat) (xs : List GTmb) (key : ByteArray) (y B : Nat) (w : World) (h : TmbsAt w B A xs) (hB : B ≤ w.heap.size) (hl : xs.length ≤ 1048576) (ht : w.cell? ⟨y, 0, none⟩ = some (.string key)) (hy : y < w.heap.size) :
    Calls Tryz.prog 140 #[.slice A xs.length c, .func (.func 141) #[] #[.pointer (some ⟨y, 0, none⟩)]] w fun r w' => ∃ i : Int, TombIx xs key i ∧ r = .returned (.int .i64 i) ∧ Below w.heap.size w w' := by
  have H := Lib.hid h; clear h
  have HY : Hid (∀ w', Below w.heap.size w w' → w'.cell? ⟨y, 0, none⟩ = some (.string key) ∧ y < w'.heap.size) := Lib.hid fun w' hb => ⟨(hb.cell (p := ⟨y, 0, none⟩) hy).trans ht, Nat.lt_of_lt_of_le hy hb.size⟩
  clear ht hy
  go_enter Tryz.func140, Tryz.ntmps140
  go_wp2_with fail
  go_loopw [8] (fun i wr => ∃ k : Nat, k ≤ xs.length ∧ i = .int .i64 k ∧ Hid (∀ e ∈ xs.take k, e.key ≠ key) ∧ Below w.heap.size w wr) (fun i _ => xs.length - (intOf i).toNat)
  case atStart => exact ⟨0, by omega, rfl, Lib.hid (by simp), Below.refl _ _⟩
  case round =>
    obtain ⟨k, hk, rfl, HN, hb⟩ := hrel
    by_cases hlt : k < xs.length
    · obtain ⟨b1, o1, rfl, hb1, p0, p1⟩ := TmbsAt.one (Sl.below H.out hb hB) hlt
      have HT : Hid (xs.take (k + 1) = xs.take k ++ [xs[k]]) := Lib.hid (List.take_succ_eq_append_getElem hlt)
      have HE : Hid (xs[k].key = key → TombIx xs key k) := Lib.hid (fun h => .inr ⟨k, hlt, rfl, h⟩)
      generalize xs[k] = e at *
      go_wp2_with fail
      refine (tombOf1_any e key y wr (HY.out _ hb).1 (HY.out _ hb).2).mono ?_
      rintro r w3 ⟨rfl, hb3⟩
      have b3 : Below w.heap.size w w3 := bnext hb hb3
      clear hb3 p0 p1
      by_cases he : e.key = key
      · have D : decide (e.key = key) = true := decide_eq_true he
        have HI := Lib.hid (HE.out he)
        rw [D]
        clear he D
        go_wp2
        go_ret
        exact ⟨_, HI.out, rfl, b3⟩
      · have D : decide (e.key = key) = false := decide_eq_false he
        have hN : ∀ e ∈ xs.take (k + 1), e.key ≠ key := by
          rw [HT.out]
          intro x hx
          rcases List.mem_append.1 hx with hx | hx
          · exact HN.out x hx
          · simp at hx; subst hx; exact he
        have HN2 := Lib.hid hN; clear hN he
        rw [D]
        clear D
        go_wp2_with fail
        go_roundw
        case rel => exact ⟨k + 1, by omega, by go_num, HN2, b3⟩
        case measure => simp [intOf]; omega
    · have hN : ∀ e ∈ xs, e.key ≠ key := by have := HN.out; rwa [List.take_of_length_le (by omega)] at this
      have HE : Hid (TombIx xs key (-1)) := Lib.hid (.inl ⟨rfl, hN⟩)
      clear hN
      go_wp2
      go_ret
      exact ⟨_, HE.out, rfl, hb⟩

theorem tombOf_any (base g : Nat) (s : GSt) (A : Option Addr) (c : Nat) (A2 : Option Addr) (c2 m n : Nat) (w : World) (hL : Led base g w s A c A2 c2 m n) (key : ByteArray) (hl2 : s.tmbs.length ≤ 1048576) :
    Calls Tryz.prog 124 #[.pointer (some ⟨g, 0, none⟩), .string key] w fun r w' => ∃ i : Int, TombIx s.tmbs key i ∧ r = .returned (.int .i64 i) ∧ Below w.heap.size w w' := by
  have hgl := hL.gl
  have HS := Lib.hid hL.st.1.2
  obtain ⟨W, hW⟩ : ∃ W, W = w.alloc (.cells #[.string key] 9) := ⟨_, rfl⟩
  have b0 : Below w.heap.size w W := by rw [hW]; exact bal (Below.refl _ _) _
  have s0 : w.heap.size < W.heap.size := by rw [hW]; simp
  have ck : W.cell? ⟨w.heap.size, 0, none⟩ = some (.string key) := by rw [hW]; exact Cells.new w [.string key] _ 0 _ rfl
  obtain ⟨k0, k1, k2, k3, k4, k5, k6, k7, k8, k9, k10⟩ := cells11 (hL.cs.below b0 hgl)
  have HW := Lib.hid hW; clear hW
  clear hL k0 k1 k2 k4 k5 k6 k7 k8 k9 k10
  go_enter Tryz.func124, Tryz.ntmps124
  go_upto_region 1 with fail
  rw [← HW.out]
  go_wp2_with fail
  refine (indexTomb_any A2 c2 s.tmbs key w.heap.size w.heap.size W (Sl.below HS.out b0 (Nat.le_refl _)) b0.size hl2 ck s0).mono ?_
  rintro r w1 ⟨i, hi, rfl, hb1⟩
  have Hi := Lib.hid hi; clear hi
  have b1 : Below w.heap.size w w1 := bnext b0 hb1
  clear k3 ck hb1 b0 s0
  go_wp2
  go_ret
  exact ⟨i, Hi.out, rfl, b1⟩

theorem takesPurge_any (base g : Nat) (s : GSt) (A : Option Addr) (c : Nat) (A2 : Option Addr) (c2 m n : Nat) (w : World) (hL : Led base g w s A c A2 c2 m n) (r : GRec) (hl2 : s.tmbs.length ≤ 1048576) :
    Calls Tryz.prog 105 #[.pointer (some ⟨g, 0, none⟩), .agg #[.int .i64 r.kind, .int .i64 r.tok, .int .i64 r.tier, .int .i64 r.beg, .int .i64 r.fin, .string r.key]] w (IsBB (restsB s r.key = true) w) := by
  have HL := Lib.hid hL; clear hL
  go_enter Tryz.func105, Tryz.ntmps105
  go_wp2_with fail
  have bb : Below w.heap.size w (w.alloc (.cells #[.int .i64 r.kind, .int .i64 r.tok, .int .i64 r.tier, .int .i64 r.beg, .int .i64 r.fin, .string r.key] 38)) := bal (Below.refl _ _) _
  generalize w.alloc (.cells #[.int .i64 r.kind, .int .i64 r.tok, .int .i64 r.tier, .int .i64 r.beg, .int .i64 r.fin, .string r.key] 38) = W at *
  refine (tombOf_any base g s A c A2 c2 m n W (HL.out.kept bb) r.key hl2).mono ?_
  rintro e w1 ⟨i, hi, rfl, hb1⟩
  have b1 : Below w.heap.size w w1 := bnext bb hb1
  have Hi : Hid (decide (i ≥ 0) = true ↔ restsB s r.key = true) := Lib.hid (by
    rw [decide_eq_true_eq]
    unfold restsB
    rw [List.any_eq_true]
    rcases hi with ⟨rfl, h⟩ | ⟨k, hk, rfl, h⟩
    · constructor
      · intro h0; omega
      · rintro ⟨t, ht, h2⟩; exact absurd (of_decide_eq_true h2) (h t ht)
    · exact ⟨fun _ => ⟨_, List.getElem_mem hk, decide_eq_true h⟩, fun _ => by omega⟩)
  clear hi hb1 bb
  go_wp2
  go_ret
  exact ⟨_, Hi.out, rfl, b1⟩

end Go.Proofs.YtpfanmcjlfdaiaaGreatDoorR

/- What publishing wants of a ledger. No Go text is walked here. -/
namespace Go.Proofs.YtpfanmcjlfdaiaaGreatDoorR
open Go.ChangeShapes Go.WideShapes Go.ChangeAt Go.RowKit Go.Deep Go.Joins Go.Maps
set_option linter.unusedVariables false
set_option linter.unusedSimpArgs false

def TakeB (s : GSt) (r : GRec) : Prop := (∃ t, IsKey r.key t r.beg r.tok) ∧ r.tok = s.fe ∧ r.beg = s.hi.at r.tier ∧ r.fin = r.beg + wid r.tier.toNat ∧ r.fin ≤ s.hi.at (r.tier - 1) ∧ s.lo.at (r.tier - 1) ≤ r.beg ∧ r.key ∉ keysAll s

end Go.Proofs.YtpfanmcjlfdaiaaGreatDoorR

/- Contract of the model's l06Named: a state's entries and what rests have a key. Conditions: lengths. -/
namespace Go.Proofs.YtpfanmcjlfdaiaaGreatDoorR
open Go.ChangeShapes Go.WideShapes Go.ChangeAt Go.RowKit Go.Deep Go.Joins Go.Maps
set_option linter.unusedVariables false
set_option linter.unusedSimpArgs false

theorem keysAll_mem {s : GSt} {key : ByteArray} : key ∈ keysAll s ↔ (∃ k, ∃ h : k < s.ents.length, s.ents[k].key = key) ∨ ∃ k, ∃ h : k < s.tmbs.length, s.tmbs[k].key = key := by
  unfold keysAll keysR
  simp only [List.take_length, List.mem_append, List.mem_reverse, List.mem_map]
  constructor
  · rintro (⟨t, ht, e⟩ | ⟨t, ht, e⟩)
    · obtain ⟨k, hk, rfl⟩ := List.getElem_of_mem ht; exact Or.inr ⟨k, hk, e⟩
    · obtain ⟨k, hk, rfl⟩ := List.getElem_of_mem ht; exact Or.inl ⟨k, hk, e⟩
  · rintro (⟨k, hk, e⟩ | ⟨k, hk, e⟩)
    · exact Or.inr ⟨_, List.getElem_mem hk, e⟩
    · exact Or.inl ⟨_, List.getElem_mem hk, e⟩

set_option maxRecDepth 100000 in
set_option maxHeartbeats 1000000 in
theorem l06Named_any (A : Option Addr) (c : Nat) (A2 : Option Addr) (c2 : Nat) (s : GSt) (key : ByteArray) (B : Nat) (w : World) (h : StAt w B A A2 s) (hB : B ≤ w.heap.size) (hl : s.ents.length ≤ 1048576) (hl2 : s.tmbs.length ≤ 1048576) :
    Calls Tryz.prog 89 #[.agg #[.int .i64 s.sq, .int .i64 s.fe, .slice A s.ents.length c, .slice A2 s.tmbs.length c2, .int .i64 s.lo.a, .int .i64 s.lo.b, .int .i64 s.lo.c, .int .i64 s.hi.a, .int .i64 s.hi.b, .int .i64 s.hi.c], .string key] w fun e w' => e = .returned (.bool (memB key (keysAll s))) ∧ Below w.heap.size w w' := by
  have H := Lib.hid h; clear h
  have HM := Lib.hid (keysAll_mem (s := s) (key := key))
  go_enter Tryz.func89, Tryz.ntmps89
  go_wp2_with fail
  have CA : Hid (Cells (w.alloc (.cells #[.int .i64 s.sq, .int .i64 s.fe, .slice A s.ents.length c, .slice A2 s.tmbs.length c2, .int .i64 s.lo.a, .int .i64 s.lo.b, .int .i64 s.lo.c, .int .i64 s.hi.a, .int .i64 s.hi.b, .int .i64 s.hi.c] 34)) w.heap.size 0 [.int .i64 s.sq, .int .i64 s.fe, .slice A s.ents.length c, .slice A2 s.tmbs.length c2, .int .i64 s.lo.a, .int .i64 s.lo.b, .int .i64 s.lo.c, .int .i64 s.hi.a, .int .i64 s.hi.b, .int .i64 s.hi.c]) := Lib.hid (Cells.new w _ _)
  have b0 : Below w.heap.size w (w.alloc (.cells #[.int .i64 s.sq, .int .i64 s.fe, .slice A s.ents.length c, .slice A2 s.tmbs.length c2, .int .i64 s.lo.a, .int .i64 s.lo.b, .int .i64 s.lo.c, .int .i64 s.hi.a, .int .i64 s.hi.b, .int .i64 s.hi.c] 34)) := bal (Below.refl _ _) _
  have HS := Lib.hid (H.out.below b0 hB)
  generalize w.alloc (.cells #[.int .i64 s.sq, .int .i64 s.fe, .slice A s.ents.length c, .slice A2 s.tmbs.length c2, .int .i64 s.lo.a, .int .i64 s.lo.b, .int .i64 s.lo.c, .int .i64 s.hi.a, .int .i64 s.hi.b, .int .i64 s.hi.c] 34) = W at *
  clear H
  obtain ⟨c0, c1, c2', c3, c4, c5, c6, c7, c8, c9⟩ := CA.out.ten
  clear c0 c1 c4 c5 c6 c7 c8 c9 CA
  go_loopw [5] (fun i wr => ∃ k : Nat, k ≤ s.ents.length ∧ i = .int .i64 k ∧ Hid (∀ j (h : j < s.ents.length), j < k → s.ents[j].key ≠ key) ∧ W = wr) (fun i _ => s.ents.length - (intOf i).toNat)
  case atStart => exact ⟨0, by omega, rfl, Lib.hid (fun j _ h => by omega), rfl⟩
  case round =>
    obtain ⟨k, hk, rfl, HN, rfl⟩ := hrel
    by_cases hlt : k < s.ents.length
    · obtain ⟨b1, o1, rfl, hb1, p0, p1, p2, p3⟩ := EntsAt.one HS.out.1 hlt
      have i1 : (0 : Int) ≤ (k : Int) := by omega
      have i2 : (k : Int) < (s.ents.length : Int) := by omega
      by_cases e : s.ents[k].key = key
      · have d : (s.ents[k].key.toList == key.toList) = true := by rw [e]; simp
        have HY := Lib.hid (memB_iff.2 (HM.out.2 (Or.inl ⟨k, hlt, e⟩)))
        clear e
        go_wp2
        refine bodyPost_ret (v := .bool true) (by simp [results, Tryz.results89, go_sem]) rfl ⟨by rw [HY.out], b0⟩
      · have d := ne_list e
        have HN2 := Lib.hid (show ∀ j (h : j < s.ents.length), j < k + 1 → s.ents[j].key ≠ key from fun j h hj => by
          by_cases ej : j = k
          · subst ej; exact e
          · exact HN.out j h (by omega))
        clear e HN
        go_wp2
        go_roundw
        case rel => exact ⟨k + 1, by omega, by go_num, HN2, by first | rfl | trivial⟩
        case measure => simp [intOf]; omega
    · have HNE := Lib.hid (show ∀ j (h : j < s.ents.length), s.ents[j].key ≠ key from fun j h => HN.out j h (by omega))
      clear HN
      go_wp2_with fail
      go_loopw [6] (fun i wr => ∃ k : Nat, k ≤ s.tmbs.length ∧ i = .int .i64 k ∧ Hid (∀ j (h : j < s.tmbs.length), j < k → s.tmbs[j].key ≠ key) ∧ W = wr) (fun i _ => s.tmbs.length - (intOf i).toNat)
      case atStart => exact ⟨0, by omega, rfl, Lib.hid (fun j _ h => by omega), rfl⟩
      case round =>
        obtain ⟨k, hk, rfl, HN, rfl⟩ := hrel
        by_cases hlt : k < s.tmbs.length
        · obtain ⟨b1, o1, rfl, hb1, p0, p1⟩ := TmbsAt.one HS.out.2 hlt
          have i1 : (0 : Int) ≤ (k : Int) := by omega
          have i2 : (k : Int) < (s.tmbs.length : Int) := by omega
          by_cases e : s.tmbs[k].key = key
          · have d : (s.tmbs[k].key.toList == key.toList) = true := by rw [e]; simp
            have HY := Lib.hid (memB_iff.2 (HM.out.2 (Or.inr ⟨k, hlt, e⟩)))
            clear e
            go_wp2
            refine bodyPost_ret (v := .bool true) (by simp [results, Tryz.results89, go_sem]) rfl ⟨by rw [HY.out], b0⟩
          · have d := ne_list e
            have HN2 := Lib.hid (show ∀ j (h : j < s.tmbs.length), j < k + 1 → s.tmbs[j].key ≠ key from fun j h hj => by
              by_cases ej : j = k
              · subst ej; exact e
              · exact HN.out j h (by omega))
            clear e HN
            go_wp2
            go_roundw
            case rel => exact ⟨k + 1, by omega, by go_num, HN2, by first | rfl | trivial⟩
            case measure => simp [intOf]; omega
        · have HY : Hid (memB key (keysAll s) = false) := Lib.hid (Bool.eq_false_iff.2 fun h => by
            rcases HM.out.1 (memB_iff.1 h) with ⟨j, hj, e⟩ | ⟨j, hj, e⟩
            · exact HNE.out j hj e
            · exact HN.out j hj (by omega) e)
          go_wp2
          refine bodyPost_ret (v := .bool false) (by simp [results, Tryz.results89, go_sem]) rfl ⟨by rw [HY.out], b0⟩

end Go.Proofs.YtpfanmcjlfdaiaaGreatDoorR
