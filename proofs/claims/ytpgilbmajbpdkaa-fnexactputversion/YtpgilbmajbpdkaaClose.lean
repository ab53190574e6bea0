/-
  Contract of (*shelf).close: the objects of the map in the order of their keys, in new memory.
-/
import Derived.Test.YtpgilbmajbpdkaaGet
import Derived.Test.YtpgilbmajbpdkaaIter
import Derived.Sort.KeysCollected
import Derived.Maps.Range
import Derived.Maps.AppendAt
import Derived.Deep.RegionLaw
import Derived.Deep.AppendLies
namespace Go.Proofs.Ytpgilbmajbpdkaa
open Go.ChangeShapes Go.WideShapes Go.ChangeAt Go.RowKit Go.Maps
set_option linter.unusedVariables false

/-- a key's bytes -/
def kb (o : GObj) : List UInt8 := o.key.data.toList

/-- the keys rise -/
def Rise (L : List GObj) : Prop := L.Pairwise (fun a b => kb a < kb b)

theorem look_mem {L : List GObj} {k : ByteArray} : (look L k).isSome = true ↔ ∃ o ∈ L, o.key = k := by
  unfold look
  rw [List.find?_isSome]
  simp

theorem Rise.nodup {L : List GObj} (h : Rise L) : (L.map kb).Nodup := by
  refine List.pairwise_map.2 (h.imp fun {a b} hab e => ?_)
  rw [e] at hab
  exact List.lt_irrefl _ hab

theorem Rise.sorted {L : List GObj} (h : Rise L) : (L.map kb).mergeSort (fun x y => decide (x ≤ y)) = L.map kb := by
  refine List.mergeSort_of_pairwise (List.pairwise_map.2 (h.imp fun {a b} hab => ?_))
  simpa using List.le_of_lt hab

theorem Rise.look {L : List GObj} (h : Rise L) {i : Nat} (hi : i < L.length) : look L L[i].key = some L[i] := by
  refine look_some hi rfl fun j hj hji e => ?_
  have := List.pairwise_iff_getElem.1 h j i hj hi hji
  unfold kb at this
  rw [e] at this
  exact List.lt_irrefl _ this

theorem keys_perm {w : World} {b n : Nat} {D : DataW Unit} {L : List GObj} (hown : w.ownsMap Try.prog 9 objElem b n D) (hT : Tells D (look L)) (hr : Rise L) : (L.map kb).Perm (strKeys D) := by
  obtain ⟨es, rfl, hp, _⟩ := hown.entries strKeyed
  obtain ⟨es', he, hk⟩ := hown.keysOf
  injection he with he
  subst he
  refine perm_strKeys hp (fun p hp => ?_) hr.nodup (fun x => ?_)
  · obtain ⟨v, hv⟩ := hk p hp
    obtain ⟨x, _, hx, _⟩ := Maps.keyOf_str Try.underlying9 hv
    exact ⟨x, hx⟩
  · have hh := hT.has ⟨x.toArray⟩
    have e : kl ⟨x.toArray⟩ = .string x := by simp [kl]
    rw [e] at hh
    rw [hh, look_mem]
    constructor
    · intro h
      obtain ⟨o, ho, rfl⟩ := List.mem_map.1 h
      exact ⟨o, ho, by simp [kb]⟩
    · rintro ⟨o, ho, hk⟩
      exact List.mem_map.2 ⟨o, ho, by simp [kb, hk]⟩

theorem keys_size {w : World} {b n : Nat} {D : DataW Unit} {L : List GObj} (hown : w.ownsMap Try.prog 9 objElem b n D) (hT : Tells D (look L)) (hr : Rise L) : Maps.size D = L.length := by
  have h := (keys_perm hown hT hr).length_eq
  obtain ⟨es, rfl, _⟩ := hown.entries strKeyed
  simpa [strKeys, size_eq] using h.symm

theorem sorted_keys {L : List GObj} (hr : Rise L) {D : DataW Unit} {ss : List (List UInt8)} (hp : (L.map kb).Perm (strKeys D)) (hs : ss.Perm (strKeys D)) : (ss.mergeSort (fun x y => decide (x ≤ y))).map encStr = (L.map (·.key)).flatMap sVals ∧ ss.length = L.length := by
  have e := mergeSort_of_perm (hs.trans hp.symm)
  refine ⟨?_, by have := (hs.trans hp.symm).length_eq; simpa using this⟩
  show (ss.mergeSort leB).map encStr = _
  rw [e]
  show ((L.map kb).mergeSort (fun x y => decide (x ≤ y))).map encStr = _
  rw [hr.sorted]
  clear e hp hs hr
  induction L with
  | nil => rfl
  | cons o L ih => simp only [List.map_cons, List.flatMap_cons, ih]; simp [sVals, encStr, kb]

/-- a store is answered, in new memory of its own -/
def NewSt (L : List GObj) (next : Int) (w : World) (v : Value) (w' : World) : Prop :=
  ∃ (A : Option Addr) (c : Nat), v = .agg #[.slice A L.length c, .int .i64 next] ∧ ObjsAt w' w'.heap.size A L ∧ Free w' A ∧ (∀ b, blk A = some b → w.heap.size ≤ b ∧ b < w'.heap.size) ∧ L.length ≤ c ∧ Below w.heap.size w w'

theorem infoObj : (Try.prog.info? 40).map (fun i => (i.zero, i.size, i.bytes)) = some (some (.agg #[.string ⟨#[]⟩, .int .i64 0, .string ⟨#[]⟩]), 3, 40) := by kernel_rfl

theorem ObjMap.look1 {w : World} {b n : Nat} {f : ByteArray → Option GObj} (h : ObjMap w b n f) {k : ByteArray} (hk : k.size ≤ maxLen) :
    (Instr.lookup 65 (.map (some b)) (.string k) false).run Try.prog w = .ok (.agg #[.string (orZero (f k)).key, .int .i64 (orZero (f k)).ver, .string (orZero (f k)).data]) w := by
  obtain ⟨D, hown, hat⟩ := h
  obtain ⟨u, ps, hrun, hu⟩ := hown.lookup strKeyed Try.underlying65 (zeroObjV w) (objElem_mk zObj) (WideMaps.keyOf_string_mk Try.underlying9 hk)
  have h1 := hat k (objD zObj)
  unfold kl at h1
  rw [h1] at hu
  rw [hrun]
  cases hf : f k with
  | none => rw [hf] at hu; rw [objElem_inv hu]; rfl
  | some o => rw [hf] at hu; rw [objElem_inv hu]; rfl

theorem Two.far {w : World} {b : Nat} {x y : Value} (h : Two w b x y) {p : Addr} (hp : b ≠ p.block) (u : Value) : Two (w.setCell p u) b x y :=
  ⟨(World.cell?_setCell_other w p ⟨b, 0, none⟩ u (fun e => hp (by rw [e]))).trans h.1, (World.cell?_setCell_other w p ⟨b, 1, none⟩ u (fun e => hp (by rw [e]))).trans h.2⟩

theorem Two.set0 {w : World} {b : Nat} {x y : Value} (h : Two w b x y) (u : Value) : Two (w.setCell ⟨b, 0, none⟩ u) b u y := ⟨cset_eq w b 0 u h.1, (cset_ne w b 0 1 u (by omega)).trans h.2⟩

theorem Two.set1 {w : World} {b : Nat} {x y : Value} (h : Two w b x y) (u : Value) : Two (w.setCell ⟨b, 1, none⟩ u) b x u := ⟨(cset_ne w b 1 0 u (by omega)).trans h.1, cset_eq w b 1 u h.2⟩

theorem grown_set (w : World) (p : Addr) (u : Value) : w.grownBy (w.setCell p u) (some p.block) := grown_setCell ⟨rfl, rfl, rfl, Nat.le_refl _, fun _ _ _ => rfl⟩ p (.inl rfl) u

theorem ObjMap.far {w : World} {b n : Nat} {f : ByteArray → Option GObj} (h : ObjMap w b n f) {p : Addr} (hp : b ≠ p.block) (u : Value) : ObjMap (w.setCell p u) b n f := by
  obtain ⟨D, hown, hat⟩ := h
  exact ⟨D, hown.setCell hp u, hat⟩

theorem ObjMap.under {w w' : World} {b n B : Nat} {f : ByteArray → Option GObj} (h : ObjMap w b n f) (hb : Below B w w') (hB : b < B) : ObjMap w' b n f := by
  obtain ⟨D, hown, hat⟩ := h
  obtain ⟨es, clock, h1, h2⟩ := hown
  exact ⟨D, ⟨es, clock, (hb.block b hB).trans h1, h2⟩, hat⟩

theorem OwnSl.far {α : Type} {f : α → List Value} {m : Nat} {e : TypeId} {base : Nat} {w : World} {v : Value} {xs : List α} (h : OwnSl f m e base w v xs) {p : Addr} (hp : p.block < base) (u : Value) : OwnSl f m e base (w.setCell p u) v xs :=
  h.kept (grown_set w p u) (.inr fun e => by have := (World.ownsRow.lt h _ e).1; omega)

theorem own_grow' {α : Type} {f : α → List Value} {m : Nat} {e : TypeId} {base : Nat} {wr w1 : World} {v : Value} {xs : List α} {o : Obj} (h : OwnSl f m e base wr v xs) (hg : (wr.alloc o).grownBy w1 v.ownBlock) (hB : base ≤ wr.heap.size) : wr.grownBy w1 v.ownBlock ∧ Below base wr w1 := by
  have h1 : wr.grownBy w1 v.ownBlock := grown_trans (World.grownBy_alloc wr o _) hg
  exact ⟨h1, below_of_grown h1 hB (fun g e => (World.ownsRow.lt h g e).1)⟩

theorem own_more' {e : TypeId} {base : Nat} {w : World} {v : Value} {xs : List GObj} {o : GObj} (h : w.ownsRow base e 3 v (xs.length + 1) (xs.flatMap GObj.vals ++ o.vals)) : OwnSl GObj.vals 3 e base w v (xs ++ [o]) := by
  unfold OwnSl
  rw [List.length_append, List.flatMap_append]
  simpa using h

theorem cell_obj_new (w : World) (o : GObj) (t : TypeId) : ∀ j u, o.vals[j]? = some u → (w.alloc (.cells #[.string o.key, .int .i64 o.ver, .string o.data] t)).cell? ((⟨w.heap.size, 0, none⟩ : Addr).add j) = some u := by
  intro j u hj
  match j, hj with
  | 0, hj => simp [GObj.vals] at hj; subst hj; simp [Addr.add]
  | 1, hj => simp [GObj.vals] at hj; subst hj; simp [Addr.add]
  | 2, hj => simp [GObj.vals] at hj; subst hj; simp [Addr.add]
  | j + 3, hj => simp [GObj.vals] at hj

theorem close_step {e : TypeId} {x2 k c1 c2 : Nat} {A1 A2 : Option Addr} {wr w1 : World} {o : Obj} {L : List GObj} (hlt : k < L.length) (ho : OwnSl GObj.vals 3 e x2 wr (.slice A1 k c1) (L.take k)) (hs : x2 ≤ wr.heap.size)
    (hown : w1.ownsRow x2 e 3 (.slice A2 (k + 1) c2) (k + 1) ((L.take k).flatMap GObj.vals ++ L[k].vals)) (hg : (wr.alloc o).drew.grownBy w1 (Value.slice A1 k c1).ownBlock) :
    OwnSl GObj.vals 3 e x2 w1 (.slice A2 (k + 1) c2) (L.take (k + 1)) ∧ Below x2 wr w1 := by
  have hg' : (wr.alloc o).grownBy w1 (Value.slice A1 k c1).ownBlock := ⟨hg.os, hg.tape, hg.output, hg.size, hg.block⟩
  obtain ⟨_, hb⟩ := own_grow' ho hg' hs
  have hlt2 : (L.take k).length = k := by simp; omega
  have h1 : OwnSl GObj.vals 3 e x2 w1 (.slice A2 (k + 1) c2) (L.take k ++ [L[k]]) := own_more' (by rw [hlt2]; exact hown)
  rw [← List.take_succ_eq_append_getElem hlt] at h1
  exact ⟨h1, hb⟩

set_option maxRecDepth 100000 in
set_option maxHeartbeats 1000000 in
theorem close_any (g m n : Nat) (next : Int) (L : List GObj) (w : World) (h : Shelf w g m n next (look L)) (hr : Rise L) (hl : L.length ≤ 400) (hk : ∀ o ∈ L, o.key.size ≤ maxLen) :
    Calls Try.prog 46 #[.pointer (some ⟨g, 0, none⟩)] w fun e w' => ∃ v, e = .returned v ∧ NewSt L next w v w' := by
  obtain ⟨tg, fg, hm, hgm, hg⟩ := h
  have hmw := hm.lt
  have FG := Lib.hid fg; clear fg
  have HM := Lib.hid hm; clear hm
  have TG := Lib.hid tg
  have HR := Lib.hid hr; clear hr
  have HK := Lib.hid hk; clear hk
  obtain ⟨tg0, tg1⟩ := tg
  go_enter Try.func46, Try.ntmps46
  go_wp2_with fail
  obtain ⟨W, hW⟩ : ∃ W, W = (w.alloc (.cells #[.slice none 0 0, .int .i64 0] 25)).alloc (.cells #[.slice none 0 0, .int .i64 next] 25) := ⟨_, rfl⟩
  have t0 : Two W w.heap.size (.slice none 0 0) (.int .i64 0) := by rw [hW]; exact (Two.new w _ _ _).alloc (by simp) _
  have t1 : Two W (w.heap.size + 1) (.slice none 0 0) (.int .i64 next) := by
    rw [hW]; have := Two.new (w.alloc (.cells #[.slice none 0 0, .int .i64 0] 25)) (.slice none 0 0) (.int .i64 next) 25
    simpa using this
  have f0 : ∀ b i, w.heap.size ≤ b → b < W.heap.size → W.frozen? ⟨b, i, none⟩ = false := fun b i h1 h2 => by
    rw [hW] at h2 ⊢
    simp at h2
    have hb : b = w.heap.size ∨ b = w.heap.size + 1 := by omega
    rcases hb with rfl | rfl
    · have := free_alloc w #[.slice none 0 0, .int .i64 0] 25 0 w.heap.size (by simp [blk]) i
      exact ((Below.refl _ _).alloc (Nat.le_refl _) _ |>.frozen (p := ⟨w.heap.size, i, none⟩) (by simp)).trans this
    · have := free_alloc (w.alloc (.cells #[.slice none 0 0, .int .i64 0] 25)) #[.slice none 0 0, .int .i64 next] 25 0 (w.heap.size + 1) (by simp [blk]) i
      exact this
  have b0 : Below w.heap.size w W := by rw [hW]; exact bal (bal (Below.refl _ _) _) _
  have s0 : W.heap.size = w.heap.size + 2 := by rw [hW]; simp
  rw [← hW]
  clear hW tg0 tg1
  have TG0 := Lib.hid (TG.out.below b0 hg); clear TG
  have HM0 := Lib.hid (HM.out.below b0); clear HM
  have FG0 := Lib.hid (show ∀ i, W.frozen? ⟨g, i, none⟩ = false from fun i => (b0.frozen hg).trans (FG.out i)); clear FG
  have T0 := Lib.hid t0; clear t0
  have T1 := Lib.hid t1; clear t1
  have F0 := Lib.hid (fun i => f0 w.heap.size i (by omega) (by omega))
  have F1 := Lib.hid (f0 (w.heap.size + 1) 0 (by omega) (by omega)); clear f0
  generalize hx : w.heap.size = x at *
  have Hx := Lib.hid hx; clear hx
  refine (callsIn_wide.1 (maps_Keys_74 (some m) W)).mono ?_
  rintro e w' ⟨rfl, rfl⟩
  go_wp2_with fail
  obtain ⟨D, hown, hT⟩ := HM0.out
  have hsz := keys_size hown hT HR.out
  have hpm := keys_perm hown hT HR.out
  have hsrt := callsIn_wide.1 (slices_Sorted_keys_73_74 m n D objElem W hown (by simp only [maxLen]; omega) (by omega))
  rw [s0] at hsrt
  refine hsrt.mono ?_
  clear hsrt
  rintro e w2 ⟨v, ss, rfl, hss, hrow, _, hb2⟩
  obtain ⟨ek, en⟩ := sorted_keys HR.out hpm hss
  rw [ek, en] at hrow
  clear hss ek en hown hT hpm hsz
  have hO : OwnSl sVals 1 9 (x + 3) w2 v (L.map (·.key)) := by
    unfold OwnSl
    rw [List.length_map]
    have e3 : (W.alloc (.cells #[.map (some m)] 65)).heap.size = x + 3 := by simp; omega
    rw [e3] at hrow
    exact hrow
  obtain ⟨ks, hks⟩ : ∃ ks, ks = L.map (·.key) := ⟨_, rfl⟩
  rw [← hks] at hO
  have hkl : ks.length = L.length := by rw [hks]; simp
  have hki : ∀ i (h : i < L.length) (h' : i < ks.length), ks[i] = L[i].key := fun i h h' => by subst hks; simp
  have HKI := Lib.hid hki; clear hki hks
  obtain ⟨Ak, ck, rfl⟩ := hO.form
  obtain ⟨hst, _, hbk, hck⟩ := OwnSl.sl hO sVals_length
  clear hO hrow
  have bb2 : Below (x + 2) W w2 := by
    have h3 : Below (x + 2) W (W.alloc (.cells #[.map (some m)] 65)) := (Below.refl _ _).alloc (by omega) _
    exact h3.trans (hb2.mono (by simp; omega))
  have s2 : x + 3 ≤ w2.heap.size := by have := hb2.size; simp at this; omega
  have TG2 := Lib.hid (TG0.out.below bb2 (by omega)); clear TG0
  have HM2 := Lib.hid (show ObjMap w2 m n (look L) from HM0.out.grown (grown_of_below (by rw [s0]; exact bb2) none) (by simp)); clear HM0
  have T02 := Lib.hid (T0.out.below bb2 (by omega)); clear T0
  have T12 := Lib.hid (T1.out.below bb2 (by omega)); clear T1
  have F02 := Lib.hid (fun i => (bb2.frozen (p := ⟨x, i, none⟩) (by show x < x + 2; omega)).trans (F0.out i)); clear F0
  have F12 := Lib.hid ((bb2.frozen (p := ⟨x + 1, 0, none⟩) (by show x + 1 < x + 2; omega)).trans F1.out); clear F1
  have b2 : Below x w w2 := b0.trans (bb2.mono (by omega))
  have HS2 := Lib.hid hst; clear hst
  have HBK := Lib.hid hbk; clear hbk
  clear hb2 bb2 b0 FG0
  generalize hx2 : w2.heap.size = x2 at *
  obtain ⟨i0, hi0, hz0, hz1, hz2⟩ := info_parts infoObj
  have HI0 := Lib.hid hi0; clear hi0
  have HZ0 := Lib.hid hz0; clear hz0
  have HZ1 := Lib.hid hz1; clear hz1
  have HZ2 := Lib.hid hz2; clear hz2
  go_wp2_with fail
  go_loopw [18] (fun i wr => ∃ (k : Nat) (A1 : Option Addr) (c1 : Nat), k ≤ L.length ∧ i = .int .i64 k ∧ Hid (Two wr (x + 1) (.slice A1 k c1) (.int .i64 next)) ∧ Hid (OwnSl GObj.vals 3 40 x2 wr (.slice A1 k c1) (L.take k)) ∧ Hid (Two wr g (.map (some m)) (.int .i64 next)) ∧ Hid (ObjMap wr m n (look L)) ∧ Hid (Two wr x (.slice none 0 0) (.int .i64 0)) ∧ Hid (∀ i, wr.frozen? ⟨x, i, none⟩ = false) ∧ Hid (wr.frozen? ⟨x + 1, 0, none⟩ = false) ∧ Hid (StrsAt wr x2 Ak ks) ∧ x2 ≤ wr.heap.size ∧ Below x w wr) (fun i _ => L.length - (intOf i).toNat)
  case atStart => exact ⟨0, none, 0, by omega, rfl, T12, Lib.hid (World.ownsRow_nil _ _ _ _), TG2, HM2, T02, F02, F12, HS2, by omega, b2⟩
  case round =>
    clear T12 TG2 HM2 T02 F02 F12 HS2 b2 hx2
    obtain ⟨k, A1, c1, hk, rfl, HT1, HO1, HTG, HMM, HT0, HF0, HF1, HSS, hs, hb⟩ := hrel
    by_cases hlt : k < L.length
    · obtain ⟨b, off, rfl, hbB, p0⟩ := StrsAt.at_ HSS.out (show k < ks.length by omega)
      rw [HKI.out k hlt (by omega)] at p0
      have hlk : look L L[k].key = some L[k] := HR.out.look hlt
      have hkey : L[k].key.size ≤ maxLen := HK.out _ (List.getElem_mem hlt)
      have hmd : ObjMap wr.drew m n (look L) := by obtain ⟨D, hD, hT⟩ := HMM.out; exact ⟨D, hD.drew, hT⟩
      have hm1 := hmd.look1 hkey
      clear hmd
      rw [hlk] at hm1
      simp only [orZero] at hm1
      clear hlk
      have Hkey := Lib.hid hkey; clear hkey
      obtain ⟨t10, t11⟩ := HT1.out
      obtain ⟨g0, g1⟩ := HTG.out
      go_wp2_with fail
      have hlt2 : (L.take k).length = k := by simp; omega
      have HO2 : wr.drew.ownsRow x2 40 3 (.slice A1 k c1) k ((L.take k).flatMap GObj.vals) := by have := HO1.out; unfold OwnSl at this; rw [hlt2] at this; exact this
      have HO3 := Lib.hid HO2; clear HO2 hlt2
      have hx1 : x + 1 < wr.heap.size := by omega
      go_region_law (refine step_append_lies _ rfl _ _ 23 rfl x2 40 i0 _ 3 40 Try.underlying23 HI0.out HZ0.out HZ1.out HZ2.out rfl (by omega) (.slice A1 k c1) k ((L.take k).flatMap GObj.vals) rfl (World.ownsRow.alloc HO3.out _) ⟨wr.heap.size, 0, none⟩ 1 1 L[k].vals rfl rfl (cell_obj_new _ _ _) (by simp [GObj.vals, Value.oneCell']) (by omega) (by simp only [maxLen]; omega) (by omega) (by simp; omega) (wr.heap.size + 1) (by simp) ?_; intro g2 c2 w1 hown' hgrow hloc hlt'; obtain ⟨hO2, hb1⟩ := close_step hlt HO1.out hs hown' hgrow; have HO4 := Lib.hid hO2; clear hO2 hown' hgrow hloc hlt' HO3; have u10 := (hb1.cell (p := ⟨x + 1, 0, none⟩) (by show x + 1 < x2; omega)).trans t10; have uf := (hb1.frozen (p := ⟨x + 1, 0, none⟩) (by show x + 1 < x2; omega)).trans HF1.out; clear hm1 t10 t11 g0 g1 p0)
      all_goals
        have HT1' := Lib.hid ((HT1.out.below hb1 (by omega)).set0 (.slice (some ⟨g2, 0, none⟩) (k + 1) c2))
        have HO5 := Lib.hid (HO4.out.far (p := ⟨x + 1, 0, none⟩) (by show x + 1 < x2; omega) (.slice (some ⟨g2, 0, none⟩) (k + 1) c2))
        have HTG' := Lib.hid ((HTG.out.below hb1 (by omega)).far (p := ⟨x + 1, 0, none⟩) (by show g ≠ x + 1; omega) (.slice (some ⟨g2, 0, none⟩) (k + 1) c2))
        have HMM' := Lib.hid ((HMM.out.under hb1 (by omega)).far (p := ⟨x + 1, 0, none⟩) (by show m ≠ x + 1; omega) (.slice (some ⟨g2, 0, none⟩) (k + 1) c2))
        have HT0' := Lib.hid ((HT0.out.below hb1 (by omega)).far (p := ⟨x + 1, 0, none⟩) (by show x ≠ x + 1; omega) (.slice (some ⟨g2, 0, none⟩) (k + 1) c2))
        have HF0' := Lib.hid (fun i => (frozen_setCell w1 ⟨x + 1, 0, none⟩ (.slice (some ⟨g2, 0, none⟩) (k + 1) c2) ⟨x, i, none⟩).trans ((hb1.frozen (p := ⟨x, i, none⟩) (by show x < x2; omega)).trans (HF0.out i)))
        have HF1' := Lib.hid ((frozen_setCell w1 ⟨x + 1, 0, none⟩ (.slice (some ⟨g2, 0, none⟩) (k + 1) c2) ⟨x + 1, 0, none⟩).trans uf)
        have HSS' := Lib.hid ((Sl.below HSS.out hb1 (Nat.le_refl _)).far (p := ⟨x + 1, 0, none⟩) (fun b' e => by have := (HBK.out b' e).1; show b' ≠ x + 1; omega) (.slice (some ⟨g2, 0, none⟩) (k + 1) c2))
        have hs' : x2 ≤ (w1.setCell ⟨x + 1, 0, none⟩ (.slice (some ⟨g2, 0, none⟩) (k + 1) c2)).heap.size := by rw [size_setCell]; exact Nat.le_trans hs hb1.size
        have hb' : Below x w (w1.setCell ⟨x + 1, 0, none⟩ (.slice (some ⟨g2, 0, none⟩) (k + 1) c2)) := (hb.trans (hb1.mono (by omega))).setCell (by show x ≤ x + 1; omega) _
        clear HT1 HO4 HTG HMM HT0 HF0 HF1 HSS hs hb hb1 u10 uf HO1
        generalize w1.setCell ⟨x + 1, 0, none⟩ (.slice (some ⟨g2, 0, none⟩) (k + 1) c2) = ws at *
        go_wp2
        go_roundw
        case rel => exact ⟨k + 1, _, c2, by omega, by go_num, HT1', HO5, HTG', HMM', HT0', HF0', HF1', HSS', hs', hb'⟩
        case measure => simp [intOf]; omega
    · obtain rfl : k = L.length := by omega
      obtain ⟨t10, t11⟩ := HT1.out
      obtain ⟨z0, z1⟩ := HT0.out
      have f0 := HF0.out 0
      have f1 := HF0.out 1
      go_wp2
      have tF := ((HT0.out.set0 (.slice A1 L.length c1)).set1 (.int .i64 next))
      have hOF : OwnSl GObj.vals 3 40 x2 ((wr.setCell ⟨x, 0, none⟩ (.slice A1 L.length c1)).setCell ⟨x, 1, none⟩ (.int .i64 next)) (.slice A1 L.length c1) L := by
        have h1 := HO1.out
        rw [List.take_length] at h1
        exact (h1.far (p := ⟨x, 0, none⟩) (by show x < x2; omega) _).far (p := ⟨x, 1, none⟩) (by show x < x2; omega) _
      have bF : Below x w ((wr.setCell ⟨x, 0, none⟩ (.slice A1 L.length c1)).setCell ⟨x, 1, none⟩ (.int .i64 next)) := (hb.setCell (p := ⟨x, 0, none⟩) (Nat.le_refl _) _).setCell (p := ⟨x, 1, none⟩) (Nat.le_refl _) _
      obtain ⟨hsl, hfr, hbl, hc⟩ := OwnSl.sl hOF vals_length
      clear t10 t11 z0 z1 f0 f1 hOF
      generalize (wr.setCell ⟨x, 0, none⟩ (.slice A1 L.length c1)).setCell ⟨x, 1, none⟩ (.int .i64 next) = wF at *
      obtain ⟨z0, z1⟩ := tF
      refine bodyPost_ret (v := .agg #[.slice A1 L.length c1, .int .i64 next]) (by simp [results, Try.results46, go_sem, z0, z1]) rfl ⟨_, rfl, A1, c1, rfl, hsl, hfr, ?_, hc, ?_⟩
      · rw [Hx.out]
        exact fun b e => ⟨by have := (hbl b e).1; omega, (hbl b e).2⟩
      · rw [Hx.out]
        exact bF

end Go.Proofs.Ytpgilbmajbpdkaa
