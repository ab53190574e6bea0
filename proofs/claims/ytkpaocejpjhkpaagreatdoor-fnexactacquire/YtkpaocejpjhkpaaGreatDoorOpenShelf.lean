/-
  Contracts of (Store).open and of (Store).fault.
-/
import Derived.Test.YtkpaocejpjhkpaaGreatDoorObjMap
import Derived.StillTailTactics
import Derived.RegionTactic
namespace Go.Proofs.YtkpaocejpjhkpaaGreatDoor
open Go.ChangeShapes Go.WideShapes Go.ChangeAt Go.RowKit Go.Maps
set_option linter.unusedVariables false

theorem run_makeObjMap (n : Int) (w : World) : (Instr.makeMap 96 (some (.int .i64 n))).run Tryz.prog w = .ok (.map (some w.heap.size)) (w.alloc (.map #[] 0)) :=
  run_makeMap_some 96 9 69 n Tryz.underlying96 w

/-- a shelf: a struct of a map and a number, in a block of its own -/
def Shelf (w : World) (g m n : Nat) (next : Int) (f : ByteArray → Option GObj) : Prop :=
  Two w g (.map (some m)) (.int .i64 next) ∧ (∀ i, w.frozen? ⟨g, i, none⟩ = false) ∧ ObjMap w m n f ∧ g ≠ m ∧ g < w.heap.size

set_option maxRecDepth 100000 in
theorem open_any (A : Option Addr) (c : Nat) (next : Int) (xs : List GObj) (B : Nat) (w : World) (h : ObjsAt w B A xs) (hB : B ≤ w.heap.size) (hf : ∀ o ∈ xs, o.fit) (hl : xs.length ≤ 300) :
    Calls Tryz.prog 47 #[.agg #[.slice A xs.length c, .int .i64 next]] w fun e w' => ∃ g m, e = .returned (.pointer (some ⟨g, 0, none⟩)) ∧ Shelf w' g m xs.length next (tell xs xs.length) ∧ w.heap.size ≤ g ∧ w.heap.size ≤ m ∧ Below w.heap.size w w' := by
  have H := Lib.hid h; clear h
  have Hf := Lib.hid hf; clear hf
  have hmk := run_makeObjMap (xs.length : Int)
  go_enter Tryz.func47, Tryz.ntmps47
  go_wp2_with fail
  go_region
  obtain ⟨W, hW⟩ : ∃ W, W = (((w.alloc (.cells #[.slice A xs.length c, .int .i64 next] 28)).alloc (.map #[] 0)).alloc (.cells #[.map (some (w.heap.size + 1)), .int .i64 next] 98)).drew := ⟨_, rfl⟩
  have t1 : Two W w.heap.size (.slice A xs.length c) (.int .i64 next) := by rw [hW]; exact ((Two.new w _ _ _).alloc (by simp) _).alloc (by simp; omega) _
  have t2 : Two W (w.heap.size + 2) (.map (some (w.heap.size + 1))) (.int .i64 next) := by
    rw [hW]; have := Two.new ((w.alloc (.cells #[.slice A xs.length c, .int .i64 next] 28)).alloc (.map #[] 0)) (.map (some (w.heap.size + 1))) (.int .i64 next) 98
    have e : ((w.alloc (.cells #[.slice A xs.length c, .int .i64 next] 28)).alloc (.map #[] 0)).heap.size = w.heap.size + 2 := by simp
    rw [e] at this; exact this
  have f2 : ∀ i, W.frozen? ⟨w.heap.size + 2, i, none⟩ = false := fun i => by
    rw [hW]; have := free_alloc ((w.alloc (.cells #[.slice A xs.length c, .int .i64 next] 28)).alloc (.map #[] 0)) #[.map (some (w.heap.size + 1)), .int .i64 next] 98 0 (w.heap.size + 2) (by simp [blk]) i; simpa using this
  have m1 : ObjMap W (w.heap.size + 1) 0 (tell xs 0) := by
    rw [hW]
    have h1 := ObjMap.made (w.alloc (.cells #[.slice A xs.length c, .int .i64 next] 28))
    have h2 := h1.below (bal (Below.refl _ _) (.cells #[.map (some (w.heap.size + 1)), .int .i64 next] 98))
    obtain ⟨D, hD, hT⟩ := h2
    exact ⟨D, by simpa using hD.drew, hT⟩
  have b0 : Below w.heap.size w W := by rw [hW]; exact (bal (bal (bal (Below.refl _ _) _) _) _).drew
  have s0 : w.heap.size + 2 < W.heap.size := by rw [hW]; simp
  rw [← hW]
  clear hW hmk
  have T1 := Lib.hid t1
  have T2 := Lib.hid t2; clear t2
  have F2 := Lib.hid f2; clear f2
  have M1 := Lib.hid m1; clear m1
  obtain ⟨t10, t11⟩ := t1
  rw [show w.heap.size + 1 + 1 = w.heap.size + 2 from rfl]
  go_wp2_with fail
  go_loopw [17] (fun i wr => ∃ k : Nat, k ≤ xs.length ∧ i = .int .i64 k ∧ Hid (Two wr (w.heap.size + 2) (.map (some (w.heap.size + 1))) (.int .i64 next)) ∧ Hid (∀ i, wr.frozen? ⟨w.heap.size + 2, i, none⟩ = false) ∧ Hid (ObjMap wr (w.heap.size + 1) k (tell xs k)) ∧ w.heap.size + 2 < wr.heap.size ∧ Below w.heap.size w wr) (fun i _ => xs.length - (intOf i).toNat)
  case atStart => exact ⟨0, by omega, rfl, T2, F2, M1, s0, b0⟩
  case round =>
    clear T1 T2 F2 M1 s0 b0 t10 t11
    obtain ⟨k, hk, rfl, HT, HF, HM, hs, hb⟩ := hrel
    by_cases hlt : k < xs.length
    · obtain ⟨b, off, rfl, hbB, p0, p1, p2⟩ := ObjsAt.obj (Sl.below H.out hb hB) hlt
      have hkey : xs[k].key.size ≤ maxLen := (Hf.out _ (List.getElem_mem hlt)).1.1
      have Hkey := Lib.hid hkey; clear hkey
      go_wp2_with fail
      obtain ⟨Wc, hWc⟩ : ∃ Wc, Wc = wr.alloc (.cells #[.string xs[k].key, .int .i64 xs[k].ver, .string xs[k].data] 69) := ⟨_, rfl⟩
      have o0 : Wc.cell? ⟨wr.heap.size, 0, none⟩ = some (.string xs[k].key) := by rw [hWc]; simp
      have o1 : Wc.cell? ⟨wr.heap.size, 1, none⟩ = some (.int .i64 xs[k].ver) := by rw [hWc]; simp
      have o2 : Wc.cell? ⟨wr.heap.size, 2, none⟩ = some (.string xs[k].data) := by rw [hWc]; simp
      have bc : Below wr.heap.size wr Wc := by rw [hWc]; exact bal (Below.refl _ _) _
      rw [← hWc]
      clear hWc p0 p1 p2
      obtain ⟨t10, t11⟩ := HT.out.below bc hs
      have HTc := Lib.hid (HT.out.below bc hs)
      have HFc := Lib.hid (show ∀ i, Wc.frozen? ⟨w.heap.size + 2, i, none⟩ = false from fun i => (bc.frozen hs).trans (HF.out i))
      have HMc := Lib.hid (HM.out.below bc)
      have hbc := bnext hb bc
      have hsc : w.heap.size + 2 < Wc.heap.size := Nat.lt_of_lt_of_le hs bc.size
      clear bc
      go_still_tail 7, (by kernel_rfl)
      change wpList _ _ _ _ _ Wc.drew
      have hmd : ObjMap Wc.drew (w.heap.size + 1) k (tell xs k) := by obtain ⟨D, hD, hT⟩ := HMc.out; exact ⟨D, hD.drew, hT⟩
      obtain ⟨w3, hrun, hm3, hg3⟩ := hmd.put (by simp only [maxLen]; omega) Hkey.out xs[k]
      clear hmd o0 o1 o2 t10 t11
      have hg3' : Wc.grownBy w3 (some (w.heap.size + 1)) := ⟨hg3.os, hg3.tape, hg3.output, hg3.size, hg3.block⟩
      have HT3 := Lib.hid (HTc.out.grown hg3' hsc (fun g e => by injection e with e; omega))
      have HF3 := Lib.hid (show ∀ i, w3.frozen? ⟨w.heap.size + 2, i, none⟩ = false from fun i => (World.frozen?_of_block (a := ⟨w.heap.size + 2, i, none⟩) (hg3'.block (w.heap.size + 2) hsc (fun e => by injection e with e; omega))).trans (HFc.out i))
      rw [← tell_succ xs k hlt] at hm3
      have HM3 := Lib.hid hm3; clear hm3
      have hs3 : w.heap.size + 2 < w3.heap.size := Nat.lt_of_lt_of_le hsc hg3'.size
      have hb3 : Below w.heap.size w w3 := hbc.trans (below_of_grown hg3' (by omega) (fun g e => by injection e with e; omega))
      clear hg3 hg3'
      go_wp2
      go_roundw
      case rel => exact ⟨k + 1, by omega, by go_num, HT3, HF3, HM3, hs3, hb3⟩
      case measure => simp [intOf]; omega
    · obtain rfl : k = xs.length := by omega
      go_wp2
      go_ret
      exact ⟨w.heap.size + 2, w.heap.size + 1, rfl, ⟨HT.out, HF.out, HM.out, by omega, hs⟩, by omega, by omega, hb⟩

/-- what a call on a key finds ahead of its own codes -/
def FaultP (xs : List GObj) (next : Int) (key : ByteArray) (ts : List ByteArray) (code : Int) : Prop :=
  ((65536 < key.size ∨ ∃ t ∈ ts, 65536 < t.size) ∧ code = 2) ∨ (¬ (65536 < key.size ∨ ∃ t ∈ ts, 65536 < t.size) ∧ ¬ StoreP xs next ∧ code = 1) ∨
  (¬ (65536 < key.size ∨ ∃ t ∈ ts, 65536 < t.size) ∧ StoreP xs next ∧ ¬ KeyP key ∧ code = 19) ∨ (¬ (65536 < key.size ∨ ∃ t ∈ ts, 65536 < t.size) ∧ StoreP xs next ∧ KeyP key ∧ code = 0)

theorem fault_any (A : Option Addr) (c : Nat) (next : Int) (xs : List GObj) (key : ByteArray) (At : Option Addr) (ct : Nat) (ts : List ByteArray) (B : Nat) (w : World) (h : ObjsAt w B A xs) (ht : StrsAt w B At ts) (hB : B ≤ w.heap.size) (hf : ∀ o ∈ xs, o.fit) (hl : xs.length ≤ 1048576) (hk : key.size ≤ maxLen) (hts : ∀ t ∈ ts, t.size ≤ maxLen) (htl : ts.length ≤ 4) :
    Calls Tryz.prog 76 #[.agg #[.slice A xs.length c, .int .i64 next], .string key, .slice At ts.length ct] w fun e w' => ∃ code, FaultP xs next key ts code ∧ e = .returned (.int .i64 code) ∧ Below w.heap.size w w' := by
  have H := Lib.hid h; clear h
  have Ht := Lib.hid ht; clear ht
  have Hf := Lib.hid hf; clear hf
  have Hk := Lib.hid hk; clear hk
  have Hts := Lib.hid hts; clear hts
  go_enter Tryz.func76, Tryz.ntmps76
  go_wp2_with fail
  obtain ⟨W, hW⟩ : ∃ W, W = (w.alloc (.cells #[.slice A xs.length c, .int .i64 next] 28)).alloc (.cells #[.string key] 9) := ⟨_, rfl⟩
  have t1 : Two W w.heap.size (.slice A xs.length c) (.int .i64 next) := by rw [hW]; exact (Two.new _ _ _ _).alloc (by simp) _
  have k1 : W.cell? ⟨w.heap.size + 1, 0, none⟩ = some (.string key) := by rw [hW]; simp
  have b0 : Below w.heap.size w W := by rw [hW]; exact bal (bal (Below.refl _ _) _) _
  have s0 : w.heap.size + 1 < W.heap.size := by rw [hW]; simp
  rw [← hW]
  clear hW
  have hst : StrsAt W W.heap.size (some ⟨w.heap.size + 1, 0, none⟩) [key] := by
    intro _
    refine ⟨w.heap.size + 1, 0, rfl, s0, fun k hk j v hv => ?_⟩
    match k, j, hk, hv with
    | 0, 0, _, hv => simp [sVals] at hv; subst hv; simpa using k1
    | 0, j + 1, _, hv => simp [sVals] at hv
    | k + 1, _, hk, _ => simp at hk
  have T0 := Lib.hid t1; clear t1 k1
  refine (anyTooLong_any (some ⟨w.heap.size + 1, 0, none⟩) 1 [key] W.heap.size W hst (by simp) (by simp; exact Hk.out)).mono ?_
  rintro e w' ⟨b1, hb1, rfl, rfl⟩
  clear hst
  have hlg : b1 = true ↔ 65536 < key.size := by rw [hb1]; simp
  clear hb1
  cases b1
  · have nk : ¬ 65536 < key.size := fun h => by have := hlg.2 h; cases this
    have NK := Lib.hid nk; clear nk hlg
    go_wp2_with fail
    refine (anyTooLong_any At ct ts B W (Sl.below Ht.out b0 hB) (by omega) Hts.out).mono ?_
    rintro e w' ⟨b2, hb2, rfl, rfl⟩
    have H2 := Lib.hid hb2; clear hb2
    cases b2
    · have nl : ¬ (65536 < key.size ∨ ∃ t ∈ ts, 65536 < t.size) := fun h => h.elim NK.out (fun h => by have := H2.out.2 h; cases this)
      have NL := Lib.hid nl; clear nl H2
      obtain ⟨t10, t11⟩ := T0.out
      go_wp2_with fail
      refine (right_any A c next xs B W (Sl.below H.out b0 hB) (by omega) Hf.out hl).mono ?_
      rintro e w1 ⟨bb, hbb, rfl, hbr⟩
      have b1 := bnext b0 hbr
      clear hbr
      cases bb
      · have hr : FaultP xs next key ts 1 := .inr (.inl ⟨NL.out, (fun h => by have := hbb.2 h; cases this), rfl⟩)
        have Hr := Lib.hid hr; clear hr hbb
        go_wp2
        go_ret
        exact ⟨1, Hr.out, rfl, b1⟩
      · have hS : StoreP xs next := hbb.1 rfl
        have HS := Lib.hid hS; clear hS hbb
        go_wp2_with fail
        refine (key_any key w1 Hk.out).mono ?_
        rintro e w' ⟨bk, hbk, rfl, rfl⟩
        cases bk
        · have hr : FaultP xs next key ts 19 := .inr (.inr (.inl ⟨NL.out, HS.out, (fun h => by have := hbk.2 h; cases this), rfl⟩))
          have Hr := Lib.hid hr; clear hr hbk
          go_wp2
          go_ret
          exact ⟨19, Hr.out, rfl, b1⟩
        · have hr : FaultP xs next key ts 0 := .inr (.inr (.inr ⟨NL.out, HS.out, hbk.1 rfl, rfl⟩))
          have Hr := Lib.hid hr; clear hr hbk
          go_wp2
          go_ret
          exact ⟨0, Hr.out, rfl, b1⟩
    · have hr : FaultP xs next key ts 2 := .inl ⟨.inr (H2.out.1 rfl), rfl⟩
      have Hr := Lib.hid hr; clear hr H2
      go_wp2
      go_ret
      exact ⟨2, Hr.out, rfl, b0⟩
  · have hr : FaultP xs next key ts 2 := .inl ⟨.inl (hlg.1 rfl), rfl⟩
    have Hr := Lib.hid hr; clear hr hlg
    go_wp2
    go_ret
    exact ⟨2, Hr.out, rfl, b0⟩

end Go.Proofs.YtkpaocejpjhkpaaGreatDoor
