/-
  Contracts of ListKeys of both packages: the first n keys that begin with a prefix and are behind a text, in new memory.
-/
import Derived.Test.YtpgilbmajbpdkabStrs
import Derived.Test.YtpgilbmajbpdkabSpecStoreOK
import Derived.Maps.AppendAt
namespace Go.Proofs.Ytpgilbmajbpdkab
open Go.ChangeShapes Go.WideShapes Go.ChangeAt Go.RowKit Go.Maps
set_option linter.unusedVariables false

theorem infoStr : (Try.prog.info? 9).map (fun i => (i.zero, i.size, i.bytes)) = some (some (.string ⟨#[]⟩), 1, 16) := by kernel_rfl

/-- a text is behind another -/
def gtB (a b : ByteArray) : Bool := !Op.bytesLess a.toList b.toList && !(a.toList == b.toList)

/-- an object's key is listed -/
def selB (p a : ByteArray) (o : GObj) : Bool := pfx o.key p && gtB o.key a

/-- the keys that are listed of the first k objects -/
def lk (p a : ByteArray) (n : Nat) (xs : List GObj) (k : Nat) : List ByteArray := (((xs.take k).filter (selB p a)).map (·.key)).take n

theorem lk_zero (p a : ByteArray) (n : Nat) (xs : List GObj) : lk p a n xs 0 = [] := by simp [lk]

theorem lk_len (p a : ByteArray) (n : Nat) (xs : List GObj) (k : Nat) : (lk p a n xs k).length ≤ n ∧ (lk p a n xs k).length ≤ xs.length := by
  unfold lk
  have h := List.length_filter_le (selB p a) (xs.take k)
  simp at h ⊢
  omega

theorem lk_yes (p a : ByteArray) (n : Nat) (xs : List GObj) (k : Nat) (hk : k < xs.length) (hs : selB p a xs[k] = true) (hl : (lk p a n xs k).length < n) : lk p a n xs (k + 1) = lk p a n xs k ++ [xs[k].key] := by
  unfold lk at *
  rw [List.take_succ_eq_append_getElem hk, List.filter_append]
  have e : List.filter (selB p a) [xs[k]] = [xs[k]] := by simp [hs]
  rw [e, List.map_append]
  generalize ((xs.take k).filter (selB p a)).map (·.key) = l at *
  have : l.length < n := by simp at hl; omega
  rw [List.take_of_length_le (by simp; omega), List.take_of_length_le (by omega)]
  rfl

theorem lk_no (p a : ByteArray) (n : Nat) (xs : List GObj) (k : Nat) (hk : k < xs.length) (hs : selB p a xs[k] = false) : lk p a n xs (k + 1) = lk p a n xs k := by
  unfold lk
  rw [List.take_succ_eq_append_getElem hk, List.filter_append]
  have e : List.filter (selB p a) [xs[k]] = [] := by simp [hs]
  rw [e, List.append_nil]

theorem lk_full (p a : ByteArray) (n : Nat) (xs : List GObj) (k : Nat) (hl : (lk p a n xs k).length = n) (j : Nat) (hj : k ≤ j) : lk p a n xs j = lk p a n xs k := by
  unfold lk at *
  obtain ⟨d, rfl⟩ : ∃ d, j = k + d := ⟨j - k, by omega⟩
  rw [List.take_add, List.filter_append, List.map_append]
  generalize ((xs.take k).filter (selB p a)).map (·.key) = l at *
  rw [List.take_append_of_le_length (by simp at hl; omega)]

theorem own_more {e : TypeId} {base : Nat} {w : World} {v : Value} {ss : List ByteArray} {s : ByteArray} (h : w.ownsRow base e 1 v (ss.length + 1) (ss.flatMap sVals ++ [.string s])) : OwnSl sVals 1 e base w v (ss ++ [s]) := by
  unfold OwnSl
  rw [List.length_append, List.flatMap_append]
  exact h

theorem own_grow {e : TypeId} {base : Nat} {wr w1 : World} {v : Value} {ss : List ByteArray} {o : Obj} (h : OwnSl sVals 1 e base wr v ss) (hg : (wr.alloc o).grownBy w1 v.ownBlock) (hB : base ≤ wr.heap.size) : wr.grownBy w1 v.ownBlock ∧ Below base wr w1 := by
  have h1 : wr.grownBy w1 v.ownBlock := grown_trans (World.grownBy_alloc wr o _) hg
  exact ⟨h1, below_of_grown h1 hB (fun g e => (World.ownsRow.lt h g e).1)⟩

/-- what a list is in the end -/
def lkAll (p a : ByteArray) (n : Nat) (xs : List GObj) : List ByteArray := lk p a n xs xs.length

/-- a slice of texts is answered, in new memory of its own -/
def NewStrs (ss : List ByteArray) (w : World) (e : Ending) (w' : World) : Prop :=
  ∃ (A : Option Addr) (c : Nat), e = .returned (.slice A ss.length c) ∧ StrsAt w' w'.heap.size A ss ∧ Free w' A ∧ (∀ b, blk A = some b → w.heap.size ≤ b ∧ b < w'.heap.size) ∧ ss.length ≤ c ∧ Below w.heap.size w w'

set_option maxRecDepth 100000 in
set_option maxHeartbeats 1000000 in
theorem specList_any (A : Option Addr) (c : Nat) (next : Int) (xs : List GObj) (p a : ByteArray) (n : Nat) (B : Nat) (w : World) (h : ObjsAt w B A xs) (hB : B ≤ w.heap.size) (hf : ∀ o ∈ xs, o.fit) (hl : xs.length ≤ 300) (hp : p.size ≤ maxLen) (ha : a.size ≤ maxLen) (hn : n ≤ 300) :
    Calls Try.prog 34 #[.agg #[.slice A xs.length c, .int .i64 next], .string p, .string a, .int .i64 n] w (NewStrs (lkAll p a n xs) w) := by
  have H := Lib.hid h; clear h
  have Hf := Lib.hid hf; clear hf
  obtain ⟨i0, hi0, hz0, hz1, hz2⟩ := info_parts infoStr
  have HI0 := Lib.hid hi0; clear hi0
  have HZ0 := Lib.hid hz0; clear hz0
  have HZ1 := Lib.hid hz1; clear hz1
  have HZ2 := Lib.hid hz2; clear hz2
  go_enter Try.func34, Try.ntmps34
  go_wp2_with fail
  obtain ⟨W, hW⟩ : ∃ W, W = (w.alloc (.cells #[.slice A xs.length c, .int .i64 next] 28)).alloc (.cells #[] 9) := ⟨_, rfl⟩
  have t1 : Two W w.heap.size (.slice A xs.length c) (.int .i64 next) := by rw [hW]; exact (Two.new _ _ _ _).alloc (by simp) _
  have o1 : OwnSl sVals 1 9 (w.heap.size + 1) W (.slice (some ⟨w.heap.size + 1, 0, none⟩) 0 0) [] := by
    rw [hW]
    have := World.ownsRow_lit (base := w.heap.size + 1) (e := 9) (size := 1) (w.alloc (.cells #[.slice A xs.length c, .int .i64 next] 28)) #[] 0 (by simp) (by simp [maxLen]) (by simp)
    simpa [OwnSl] using this
  have b0 : Below w.heap.size w W := by rw [hW]; exact bal (bal (Below.refl _ _) _) _
  have s0 : w.heap.size + 1 < W.heap.size := by rw [hW]; simp
  rw [← hW]
  clear hW
  have T0 := Lib.hid t1; clear t1
  have O0 := Lib.hid o1; clear o1
  go_loopw [9, 10] (fun v i wr => ∃ (k : Nat) (A1 : Option Addr) (c1 : Nat), k ≤ xs.length ∧ i = .int .i64 k ∧ v = .slice A1 (lk p a n xs k).length c1 ∧ Hid (OwnSl sVals 1 9 (w.heap.size + 1) wr (.slice A1 (lk p a n xs k).length c1) (lk p a n xs k)) ∧ Hid (Two wr w.heap.size (.slice A xs.length c) (.int .i64 next)) ∧ w.heap.size + 1 < wr.heap.size ∧ Below w.heap.size w wr) (fun _ i _ => xs.length - (intOf i).toNat)
  case atStart => exact ⟨0, _, _, by omega, rfl, by rw [lk_zero]; rfl, by rw [lk_zero]; exact O0, T0, s0, b0⟩
  case round =>
    clear T0 O0 s0 b0
    obtain ⟨k, A1, c1, hk, rfl, rfl, HO, HT, hs, hb⟩ := hrel
    obtain ⟨t10, t11⟩ := HT.out
    have hll := lk_len p a n xs k
    by_cases hlt : k < xs.length
    · by_cases hfull : (lk p a n xs k).length < n
      · have d1 : decide (((lk p a n xs k).length : Int) < (n : Int)) = true := by simp; omega
        obtain ⟨b, off, rfl, hbB, p0, p1, p2⟩ := ObjsAt.obj (Sl.below H.out hb hB) hlt
        have hkey : xs[k].key.size ≤ maxLen := (Hf.out _ (List.getElem_mem hlt)).1.1
        have Hkey := Lib.hid hkey; clear hkey
        go_wp2_with fail
        refine (specPrefix_any xs[k].key p wr Hkey.out hp).mono ?_
        rintro e w' ⟨rfl, rfl⟩
        cases e0 : pfx xs[k].key p
        · have hsel : selB p a xs[k] = false := by simp [selB, gtB, e0]
          have hnx := lk_no p a n xs k hlt hsel
          have Hnx := Lib.hid hnx; clear hnx hsel
          go_wp2
          go_roundw
          case rel => exact ⟨k + 1, A1, c1, by omega, by go_num, by rw [Hnx.out], by rw [Hnx.out]; exact HO, HT, hs, hb⟩
          case measure => simp [intOf]; omega
        · cases e1 : Op.bytesLess xs[k].key.toList a.toList
          · cases e2 : (xs[k].key.toList == a.toList)
            · have hsel : selB p a xs[k] = true := by simp [selB, gtB, e0, e1, e2]
              have hnx := lk_yes p a n xs k hlt hsel hfull
              have Hnx := Lib.hid hnx; clear hnx hsel
              go_wp2_with (at_builtin; refine wpList_append_own_at _ rfl _ _ 35 rfl (w.heap.size + 1) 9 i0 _ 1 16 Try.underlying35 HI0.out HZ0.out HZ1.out HZ2.out rfl (by omega) (.slice A1 (lk p a n xs k).length c1) (lk p a n xs k).length ((lk p a n xs k).flatMap sVals) rfl (World.ownsRow.alloc HO.out _) ⟨wr.heap.size, 0, none⟩ 1 1 [.string xs[k].key] rfl rfl (cell_one_new _ _ _) (by simp [Value.oneCell']) (by simp only [maxLen]; omega) (by omega) (by simp; omega) ?_; intro v' w1 hown' hgrow hnil hloc)
              obtain ⟨hg1, hb1⟩ := own_grow HO.out hgrow (by omega)
              have hO2 := own_more hown'
              rw [← Hnx.out] at hO2
              obtain ⟨A2, c2, hv2⟩ := hO2.form
              rw [hv2] at hO2
              have HO2 := Lib.hid hO2; clear hO2 hown' hgrow hnil hloc
              have HT2 := Lib.hid (HT.out.below hb1 (by omega))
              have hs2 : w.heap.size + 1 < w1.heap.size := Nat.lt_of_lt_of_le hs hg1.size
              have hb2 : Below w.heap.size w w1 := hb.trans (hb1.mono (by omega))
              have Hv2 := Lib.hid hv2; clear hv2
              go_roundw
              case rel => exact ⟨k + 1, A2, c2, by omega, by go_num, Hv2.out, HO2, HT2, hs2, hb2⟩
              case measure => simp [intOf]; omega
            · have hsel : selB p a xs[k] = false := by simp [selB, gtB, e0, e1, e2]
              have hnx := lk_no p a n xs k hlt hsel
              have Hnx := Lib.hid hnx; clear hnx hsel
              go_wp2
              go_roundw
              case rel => exact ⟨k + 1, A1, c1, by omega, by go_num, by rw [Hnx.out], by rw [Hnx.out]; exact HO, HT, hs, hb⟩
              case measure => simp [intOf]; omega
          · have hsel : selB p a xs[k] = false := by simp [selB, gtB, e0, e1]
            have hnx := lk_no p a n xs k hlt hsel
            have Hnx := Lib.hid hnx; clear hnx hsel
            go_wp2
            go_roundw
            case rel => exact ⟨k + 1, A1, c1, by omega, by go_num, by rw [Hnx.out], by rw [Hnx.out]; exact HO, HT, hs, hb⟩
            case measure => simp [intOf]; omega
      · have hnn : (lk p a n xs k).length = n := by omega
        have hall : lkAll p a n xs = lk p a n xs k := lk_full p a n xs k hnn _ hk
        have Hall := Lib.hid hall; clear hall hnn
        have d1 : decide (((lk p a n xs k).length : Int) < (n : Int)) = false := by simp; omega
        go_wp2
        go_ret
        obtain ⟨hsl, hfr, hbl, hc⟩ := OwnSl.sl HO.out sVals_length
        rw [Hall.out]
        exact ⟨A1, c1, rfl, hsl, hfr, fun b e => ⟨by have := (hbl b e).1; omega, (hbl b e).2⟩, hc, hb⟩
    · obtain rfl : k = xs.length := by omega
      go_wp2
      go_ret
      obtain ⟨hsl, hfr, hbl, hc⟩ := OwnSl.sl HO.out sVals_length
      exact ⟨A1, c1, rfl, hsl, hfr, fun b e => ⟨by have := (hbl b e).1; omega, (hbl b e).2⟩, hc, hb⟩

/-- what ListKeys answers -/
def ListR (xs : List GObj) (next : Int) (p a : ByteArray) (n : Int) (ss : List ByteArray) (code : Int) : Prop :=
  ((65536 < p.size ∨ 65536 < a.size) ∧ ss = [] ∧ code = 2) ∨
  (¬ (65536 < p.size ∨ 65536 < a.size) ∧ ¬ StoreP xs next ∧ ss = [] ∧ code = 1) ∨
  (¬ (65536 < p.size ∨ 65536 < a.size) ∧ StoreP xs next ∧ ¬ (0 ≤ n ∧ n ≤ 300) ∧ ss = [] ∧ code = 4) ∨
  (¬ (65536 < p.size ∨ 65536 < a.size) ∧ StoreP xs next ∧ (0 ≤ n ∧ n ≤ 300) ∧ ss = lkAll p a n.toNat xs ∧ code = 0)

theorem ListR.one {xs : List GObj} {next : Int} {p a : ByteArray} {n : Int} {ss ss' : List ByteArray} {code code' : Int} (h : ListR xs next p a n ss code) (h' : ListR xs next p a n ss' code') : ss' = ss ∧ code' = code := by
  rcases h with ⟨a1, rfl, rfl⟩ | ⟨a1, a2, rfl, rfl⟩ | ⟨a1, a2, a3, rfl, rfl⟩ | ⟨a1, a2, a3, rfl, rfl⟩ <;>
    rcases h' with ⟨b1, rfl, rfl⟩ | ⟨b1, b2, rfl, rfl⟩ | ⟨b1, b2, b3, rfl, rfl⟩ | ⟨b1, b2, b3, rfl, rfl⟩ <;>
    first | exact ⟨rfl, rfl⟩ | (exfalso; first | exact a1 b1 | exact b1 a1 | exact a2 b2 | exact b2 a2 | exact a3 b3 | exact b3 a3)

/-- keys and a code are answered, the keys in new memory -/
def IsList (R : List ByteArray → Int → Prop) (w : World) (e : Ending) (w' : World) : Prop :=
  ∃ (ss : List ByteArray) (code : Int) (A : Option Addr) (c : Nat), R ss code ∧ e = .returned (.tuple #[.slice A ss.length c, .int .i64 code]) ∧ StrsAt w' w'.heap.size A ss ∧ Free w' A ∧ (∀ b, blk A = some b → w.heap.size ≤ b ∧ b < w'.heap.size) ∧ ss.length ≤ c ∧ Below w.heap.size w w'

theorem lkAll_len (p a : ByteArray) (n : Nat) (xs : List GObj) : (lkAll p a n xs).length ≤ n := (lk_len p a n xs xs.length).1

theorem IsList.none_ {R : List ByteArray → Int → Prop} {w w' : World} {code : Int} (h : R [] code) (hb : Below w.heap.size w w') : IsList R w (.returned (.tuple #[.slice none 0 0, .int .i64 code])) w' :=
  ⟨[], code, none, 0, h, rfl, Sl.nil, Free.none_, fun b e => by simp [blk] at e, Nat.le_refl _, hb⟩

theorem IsList.empty {R : List ByteArray → Int → Prop} {w w1 : World} {code : Int} {x : Nat} (h : R [] code) (hb : Below w.heap.size w w1) (hx : x = w1.heap.size) : IsList R w (.returned (.tuple #[.slice (some ⟨x, 0, none⟩) 0 0, .int .i64 code])) (w1.alloc (.cells #[] 9)) := by
  subst hx
  exact ⟨[], code, _, 0, h, rfl, Sl.nil, free_alloc _ _ _ _, fun b e => by simp [blk] at e; subst e; exact ⟨hb.size, by simp⟩, Nat.le_refl _, bal hb _⟩

set_option maxRecDepth 100000 in
theorem specListKeys_any (A : Option Addr) (c : Nat) (next : Int) (xs : List GObj) (p a : ByteArray) (n : Int) (B : Nat) (w : World) (h : ObjsAt w B A xs) (hB : B ≤ w.heap.size) (hf : ∀ o ∈ xs, o.fit) (hl : xs.length ≤ 1048576) (hp : p.size ≤ maxLen) (ha : a.size ≤ maxLen) :
    Calls Try.prog 13 #[.agg #[.slice A xs.length c, .int .i64 next], .string p, .string a, .int .i64 n] w (IsList (ListR xs next p a n) w) := by
  have H := Lib.hid h; clear h
  have Hf := Lib.hid hf; clear hf
  have Hp := Lib.hid hp
  have Ha := Lib.hid ha
  unfold maxLen at hp ha
  by_cases c1 : 65536 < p.size
  · have hr : ListR xs next p a n [] 2 := .inl ⟨.inl c1, rfl, rfl⟩
    have Hr := Lib.hid hr; clear hr
    have d1 : decide (65536 < (p.size : Int)) = true := by simp; omega
    go_enter Try.func13, Try.ntmps13
    go_wp2
    go_ret2
    exact IsList.empty Hr.out (bal (Below.refl _ _) _) (by simp)
  have d1 : decide (65536 < (p.size : Int)) = false := by simp; omega
  by_cases c2 : 65536 < a.size
  · have hr : ListR xs next p a n [] 2 := .inl ⟨.inr c2, rfl, rfl⟩
    have Hr := Lib.hid hr; clear hr
    have d2 : decide (65536 < (a.size : Int)) = true := by simp; omega
    go_enter Try.func13, Try.ntmps13
    go_wp2
    go_ret2
    exact IsList.empty Hr.out (bal (Below.refl _ _) _) (by simp)
  have d2 : decide (65536 < (a.size : Int)) = false := by simp; omega
  have hlong : ¬ (65536 < p.size ∨ 65536 < a.size) := fun h => h.elim c1 c2
  have HL := Lib.hid hlong; clear hlong
  go_enter Try.func13, Try.ntmps13
  go_wp2_with fail
  obtain ⟨W, hW⟩ : ∃ W, W = w.alloc (.cells #[.slice A xs.length c, .int .i64 next] 28) := ⟨_, rfl⟩
  have t1 : Two W w.heap.size (.slice A xs.length c) (.int .i64 next) := by rw [hW]; exact Two.new _ _ _ _
  have b0 : Below w.heap.size w W := by rw [hW]; exact bal (Below.refl _ _) _
  have s0 : w.heap.size < W.heap.size := by rw [hW]; simp
  rw [← hW]
  clear hW
  have T0 := Lib.hid t1; clear t1
  refine (specStoreOK_any A c next xs B W (Sl.below H.out b0 hB) (by omega) Hf.out hl).mono ?_
  rintro e w1 ⟨bb, hbb, rfl, hb1⟩
  have b1 := bnext b0 hb1
  cases bb
  · have hr : ListR xs next p a n [] 1 := .inr (.inl ⟨HL.out, (fun h => by have := hbb.2 h; cases this), rfl, rfl⟩)
    have Hr := Lib.hid hr; clear hr hbb
    go_wp2
    go_ret2
    exact IsList.empty Hr.out b1 rfl
  have hS : StoreP xs next := hbb.1 rfl
  have HS := Lib.hid hS; clear hS hbb
  have T1 := Lib.hid (T0.out.below hb1 s0)
  have s1 : w.heap.size < w1.heap.size := Nat.lt_of_lt_of_le s0 hb1.size
  clear T0 hb1 b0 s0
  obtain ⟨t10, t11⟩ := T1.out
  go_wp2_with fail
  refine (l01In_any n 0 300 w1).mono ?_
  rintro e w' ⟨rfl, rfl⟩
  by_cases c3 : 0 ≤ n ∧ n ≤ 300
  · have d3 : decide (0 ≤ n ∧ n ≤ 300) = true := by simpa using c3
    obtain ⟨m, rfl⟩ : ∃ m : Nat, n = (m : Int) := ⟨n.toNat, by omega⟩
    have hm : m ≤ 300 := by omega
    go_wp2_with fail
    refine (specList_any A c next xs p a m B w1 (Sl.below H.out b1 hB) (by omega) Hf.out HS.out.2.2.1 Hp.out Ha.out hm).mono ?_
    rintro e w2 ⟨A2, c2, rfl, hs2, hf2, hbl2, hc2, hb2⟩
    have hr : ListR xs next p a (m : Int) (lkAll p a m xs) 0 := .inr (.inr (.inr ⟨HL.out, HS.out, c3, by simp, rfl⟩))
    have Hr := Lib.hid hr; clear hr
    have hl2 := lkAll_len p a m xs
    have b2 := bnext b1 hb2
    have Hs2 := Lib.hid hs2; clear hs2
    have Hf2 := Lib.hid hf2; clear hf2
    have Hbl2 := Lib.hid hbl2; clear hbl2
    generalize lkAll p a m xs = ss at *
    clear c3 d3
    go_wp2
    go_ret2
    exact ⟨ss, 0, A2, c2, Hr.out, rfl, Hs2.out, Hf2.out, fun b e => ⟨by have := (Hbl2.out b e).1; omega, (Hbl2.out b e).2⟩, hc2, b2⟩
  · have d3 : decide (0 ≤ n ∧ n ≤ 300) = false := by simpa using c3
    have hr : ListR xs next p a n [] 4 := .inr (.inr (.inl ⟨HL.out, HS.out, c3, rfl, rfl⟩))
    have Hr := Lib.hid hr; clear hr c3
    go_wp2
    go_ret2
    exact IsList.empty Hr.out b1 rfl

set_option maxRecDepth 100000 in
set_option maxHeartbeats 1000000 in
theorem listKeys_any (A : Option Addr) (c : Nat) (next : Int) (xs : List GObj) (p a : ByteArray) (n : Int) (B : Nat) (w : World) (h : ObjsAt w B A xs) (hB : B ≤ w.heap.size) (hf : ∀ o ∈ xs, o.fit) (hl : xs.length ≤ 1048576) (hp : p.size ≤ maxLen) (ha : a.size ≤ maxLen) :
    Calls Try.prog 14 #[.agg #[.slice A xs.length c, .int .i64 next], .string p, .string a, .int .i64 n] w (IsList (ListR xs next p a n) w) := by
  have H := Lib.hid h; clear h
  have Hf := Lib.hid hf; clear hf
  have Hp := Lib.hid hp; clear hp
  have Ha := Lib.hid ha; clear ha
  obtain ⟨i0, hi0, hz0, hz1, hz2⟩ := info_parts infoStr
  have HI0 := Lib.hid hi0; clear hi0
  have HZ0 := Lib.hid hz0; clear hz0
  have HZ1 := Lib.hid hz1; clear hz1
  have HZ2 := Lib.hid hz2; clear hz2
  go_enter Try.func14, Try.ntmps14
  go_wp2_with fail
  obtain ⟨W, hW⟩ : ∃ W, W = (w.alloc (.cells #[.slice A xs.length c, .int .i64 next] 28)).alloc (.cells #[.string p, .string a] 9) := ⟨_, rfl⟩
  have t1 : Two W w.heap.size (.slice A xs.length c) (.int .i64 next) := by rw [hW]; exact (Two.new _ _ _ _).alloc (by simp) _
  have t2 : Two W (w.heap.size + 1) (.string p) (.string a) := by
    rw [hW]; have := Two.new (w.alloc (.cells #[.slice A xs.length c, .int .i64 next] 28)) (.string p) (.string a) 9; simpa using this
  have b0 : Below w.heap.size w W := by rw [hW]; exact bal (bal (Below.refl _ _) _) _
  have s0 : w.heap.size + 1 < W.heap.size := by rw [hW]; simp
  rw [← hW]
  clear hW
  have hst : StrsAt W W.heap.size (some ⟨w.heap.size + 1, 0, none⟩) [p, a] := by
    intro _
    refine ⟨w.heap.size + 1, 0, rfl, s0, fun k hk j v hv => ?_⟩
    match k, j, hk, hv with
    | 0, 0, _, hv => simp [sVals] at hv; subst hv; simpa using t2.1
    | 1, 0, _, hv => simp [sVals] at hv; subst hv; simpa using t2.2
    | 0, j + 1, _, hv => simp [sVals] at hv
    | 1, j + 1, _, hv => simp [sVals] at hv
    | k + 2, _, hk, _ => simp at hk; omega
  have T0 := Lib.hid t1; clear t1 t2
  refine (anyTooLong_any (some ⟨w.heap.size + 1, 0, none⟩) 2 [p, a] W.heap.size W hst (by simp) (by simp; exact ⟨Hp.out, Ha.out⟩)).mono ?_
  rintro e w' ⟨b1, hb1, rfl, rfl⟩
  clear hst
  have hlg : b1 = true ↔ (65536 < p.size ∨ 65536 < a.size) := by rw [hb1]; simp
  clear hb1
  cases b1
  · have hlong : ¬ (65536 < p.size ∨ 65536 < a.size) := fun h => by have := hlg.2 h; cases this
    have HL := Lib.hid hlong; clear hlong hlg
    obtain ⟨t10, t11⟩ := T0.out
    go_wp2_with fail
    refine (right_any A c next xs B W (Sl.below H.out b0 hB) (by omega) Hf.out hl).mono ?_
    rintro e w1 ⟨bb, hbb, rfl, hbr⟩
    have b1 := bnext b0 hbr
    cases bb
    · have hr : ListR xs next p a n [] 1 := .inr (.inl ⟨HL.out, (fun h => by have := hbb.2 h; cases this), rfl, rfl⟩)
      have Hr := Lib.hid hr; clear hr hbb
      go_wp2
      go_ret2
      exact IsList.none_ Hr.out b1
    have hS : StoreP xs next := hbb.1 rfl
    have HS := Lib.hid hS; clear hS hbb
    have T1 := Lib.hid (T0.out.below hbr (by omega))
    have s1 : w.heap.size + 1 < w1.heap.size := Nat.lt_of_lt_of_le s0 hbr.size
    clear T0 hbr b0 s0 t10 t11
    obtain ⟨t10, t11⟩ := T1.out
    by_cases c3 : 0 ≤ n ∧ n ≤ 300
    · obtain ⟨m, rfl⟩ : ∃ m : Nat, n = (m : Int) := ⟨n.toNat, by omega⟩
      have hm : m ≤ 300 := by omega
      have hl3 : xs.length ≤ 300 := HS.out.2.2.1
      have d3 : decide ((m : Int) < 0) = false := by simp
      have d4 : decide (300 < (m : Int)) = false := by simp; omega
      have hr : ListR xs next p a (m : Int) (lkAll p a m xs) 0 := .inr (.inr (.inr ⟨HL.out, HS.out, c3, by simp, rfl⟩))
      have Hr := Lib.hid hr; clear hr c3
      go_wp2_with fail
      go_loopw [10, 32] (fun v i wr => ∃ (k : Nat) (A1 : Option Addr) (c1 : Nat), k ≤ xs.length ∧ i = .int .i64 k ∧ v = .slice A1 (lk p a m xs k).length c1 ∧ Hid (OwnSl sVals 1 9 (w.heap.size + 1) wr (.slice A1 (lk p a m xs k).length c1) (lk p a m xs k)) ∧ Hid (Two wr w.heap.size (.slice A xs.length c) (.int .i64 next)) ∧ w.heap.size + 1 < wr.heap.size ∧ Below w.heap.size w wr) (fun _ i _ => xs.length - (intOf i).toNat)
      case atStart => exact ⟨0, none, 0, by omega, rfl, by rw [lk_zero]; rfl, by rw [lk_zero]; exact Lib.hid (World.ownsRow_nil _ _ _ _), T1, s1, b1⟩
      case round =>
        clear T1 s1 b1 t10 t11
        obtain ⟨k, A1, c1, hk, rfl, rfl, HO, HT, hs, hb⟩ := hrel
        have hll := lk_len p a m xs k
        by_cases hlt : k < xs.length
        · obtain ⟨b, off, rfl, hbB, p0, p1, p2⟩ := ObjsAt.obj (Sl.below H.out hb hB) hlt
          have hkey : xs[k].key.size ≤ maxLen := (Hf.out _ (List.getElem_mem hlt)).1.1
          have Hkey := Lib.hid hkey; clear hkey
          have hal : ∀ o, Below wr.heap.size wr (wr.alloc o) := fun o => bal (Below.refl _ _) o
          have HOc := Lib.hid (HO.out.below (hal (.cells #[.string xs[k].key, .int .i64 xs[k].ver, .string xs[k].data] 62)))
          have HTc := Lib.hid (HT.out.below (hal (.cells #[.string xs[k].key, .int .i64 xs[k].ver, .string xs[k].data] 62)) (by omega))
          have hsc : w.heap.size + 1 < (wr.alloc (.cells #[.string xs[k].key, .int .i64 xs[k].ver, .string xs[k].data] 62)).heap.size := by simp; omega
          have hbc := bnext hb (hal (.cells #[.string xs[k].key, .int .i64 xs[k].ver, .string xs[k].data] 62))
          clear hal
          by_cases hfull : (lk p a m xs k).length < m
          · have d1 : (((lk p a m xs k).length : Int) == (m : Int)) = false := by simp; omega
            cases e1 : Op.bytesLess xs[k].key.toList a.toList
            · cases e2 : (xs[k].key.toList == a.toList)
              · cases e0 : pfx xs[k].key p
                · have hsel : selB p a xs[k] = false := by simp [selB, gtB, e0]
                  have hnx := lk_no p a m xs k hlt hsel
                  have Hnx := Lib.hid hnx; clear hnx hsel
                  go_wp2_with (go_at_call 37; refine (hasPrefix_any xs[k].key p _ Hkey.out Hp.out).mono ?_; rintro e w' ⟨rfl, rfl⟩)
                  go_roundw
                  case rel => exact ⟨k + 1, A1, c1, by omega, by go_num, by rw [Hnx.out], by rw [Hnx.out]; exact HOc, HTc, hsc, hbc⟩
                  case measure => simp [intOf]; omega
                · have hsel : selB p a xs[k] = true := by simp [selB, gtB, e0, e1, e2]
                  have hnx := lk_yes p a m xs k hlt hsel hfull
                  have Hnx := Lib.hid hnx; clear hnx hsel
                  go_wp2_with (first
                    | (go_at_call 37; refine (hasPrefix_any xs[k].key p _ Hkey.out Hp.out).mono ?_; rintro e w' ⟨rfl, rfl⟩)
                    | (at_builtin; refine wpList_append_own_at _ rfl _ _ 35 rfl (w.heap.size + 1) 9 i0 _ 1 16 Try.underlying35 HI0.out HZ0.out HZ1.out HZ2.out rfl (by omega) (.slice A1 (lk p a m xs k).length c1) (lk p a m xs k).length ((lk p a m xs k).flatMap sVals) rfl (World.ownsRow.alloc HOc.out _) ⟨wr.heap.size + 1, 0, none⟩ 1 1 [.string xs[k].key] rfl rfl (by simpa using cell_one_new (wr.alloc (.cells #[.string xs[k].key, .int .i64 xs[k].ver, .string xs[k].data] 62)) _ _) (by simp [Value.oneCell']) (by simp only [maxLen]; omega) (by omega) (by simp; omega) ?_; intro v' w1 hown' hgrow hnil hloc))
                  obtain ⟨hg1, hb1⟩ := own_grow HOc.out hgrow (by omega)
                  have hO2 := own_more hown'
                  rw [← Hnx.out] at hO2
                  obtain ⟨A2, c2, hv2⟩ := hO2.form
                  rw [hv2] at hO2
                  have HO2 := Lib.hid hO2; clear hO2 hown' hgrow hnil hloc
                  have HT2 := Lib.hid (HTc.out.below hb1 (by omega))
                  have hs2 : w.heap.size + 1 < w1.heap.size := Nat.lt_of_lt_of_le hsc hg1.size
                  have hb2 : Below w.heap.size w w1 := hbc.trans (hb1.mono (by omega))
                  have Hv2 := Lib.hid hv2; clear hv2
                  go_roundw
                  case rel => exact ⟨k + 1, A2, c2, by omega, by go_num, Hv2.out, HO2, HT2, hs2, hb2⟩
                  case measure => simp [intOf]; omega
              · have hsel : selB p a xs[k] = false := by simp [selB, gtB, e1, e2]
                have hnx := lk_no p a m xs k hlt hsel
                have Hnx := Lib.hid hnx; clear hnx hsel
                go_wp2
                go_roundw
                case rel => exact ⟨k + 1, A1, c1, by omega, by go_num, by rw [Hnx.out], by rw [Hnx.out]; exact HOc, HTc, hsc, hbc⟩
                case measure => simp [intOf]; omega
            · have hsel : selB p a xs[k] = false := by simp [selB, gtB, e1]
              have hnx := lk_no p a m xs k hlt hsel
              have Hnx := Lib.hid hnx; clear hnx hsel
              go_wp2
              go_roundw
              case rel => exact ⟨k + 1, A1, c1, by omega, by go_num, by rw [Hnx.out], by rw [Hnx.out]; exact HOc, HTc, hsc, hbc⟩
              case measure => simp [intOf]; omega
          · have hnn : (lk p a m xs k).length = m := by omega
            have hall : lkAll p a m xs = lk p a m xs k := lk_full p a m xs k hnn _ hk
            have Hall := Lib.hid hall; clear hall
            have d1 : (((lk p a m xs k).length : Int) == (m : Int)) = true := by simp; omega
            clear hnn
            go_wp2
            go_ret2
            obtain ⟨hsl, hfr, hbl, hc⟩ := OwnSl.sl HOc.out sVals_length
            refine ⟨lk p a m xs k, 0, A1, c1, by rw [← Hall.out]; exact Hr.out, rfl, hsl, hfr, fun b e => ⟨by have := (hbl b e).1; omega, (hbl b e).2⟩, hc, hbc⟩
        · obtain rfl : k = xs.length := by omega
          go_wp2
          go_ret2
          obtain ⟨hsl, hfr, hbl, hc⟩ := OwnSl.sl HO.out sVals_length
          exact ⟨lkAll p a m xs, 0, A1, c1, Hr.out, rfl, hsl, hfr, fun b e => ⟨by have := (hbl b e).1; omega, (hbl b e).2⟩, hc, hb⟩
    · have hr : ListR xs next p a n [] 4 := .inr (.inr (.inl ⟨HL.out, HS.out, c3, rfl, rfl⟩))
      have Hr := Lib.hid hr; clear hr
      by_cases c4 : n < 0
      · have d3 : decide (n < 0) = true := by simpa using c4
        go_wp2
        go_ret2
        exact IsList.none_ Hr.out b1
      · have d3 : decide (n < 0) = false := by simpa using c4
        have d4 : decide (300 < n) = true := by simp; omega
        go_wp2
        go_ret2
        exact IsList.none_ Hr.out b1
  · have hr : ListR xs next p a n [] 2 := .inl ⟨hlg.1 rfl, rfl, rfl⟩
    have Hr := Lib.hid hr; clear hr hlg
    go_wp2
    go_ret2
    exact IsList.none_ Hr.out b0

end Go.Proofs.Ytpgilbmajbpdkab
