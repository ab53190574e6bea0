/-
  Contracts of the model's l06In and StateOK: true just of a right state. Conditions: lengths.
-/
import Derived.Test.YtpfanmcjlfdaiaaGreatDoorRTk
import Derived.Test.YtpfanmcjlfdaiaaGreatDoorRN15
import Derived.Test.YtpfanmcjlfdaiaaGreatDoorRRecE
import Derived.Test.YtpfanmcjlfdaiaaGreatDoorRAppG
import Derived.Deep.RegionHeld3
namespace Go.Proofs.YtpfanmcjlfdaiaaGreatDoorR
open Go.ChangeShapes Go.WideShapes Go.ChangeAt Go.RowKit Go.Deep Go.Joins Go.Maps
set_option linter.unusedVariables false
set_option linter.unusedSimpArgs false

def keysE (es : List GEnt) (n : Nat) : List ByteArray := (es.take n).map (·.key)

def keysT (ts : List GTmb) (n : Nat) : List ByteArray := (ts.take n).map (·.key)

theorem keysE_succ (es : List GEnt) (n : Nat) (h : n < es.length) : keysE es (n + 1) = keysE es n ++ [es[n].key] := by
  unfold keysE
  rw [List.take_succ_eq_append_getElem h, List.map_append]
  rfl

theorem keysT_succ (ts : List GTmb) (n : Nat) (h : n < ts.length) : keysT ts (n + 1) = keysT ts n ++ [ts[n].key] := by
  unfold keysT
  rw [List.take_succ_eq_append_getElem h, List.map_append]
  rfl

theorem keysE_len (es : List GEnt) (n : Nat) (h : n ≤ es.length) : (keysE es n).length = n := by simp [keysE]; omega

theorem keysT_len (ts : List GTmb) (n : Nat) (h : n ≤ ts.length) : (keysT ts n).length = n := by simp [keysT]; omega

theorem keysN_iff (s : GSt) : keysN s ↔ (keysE s.ents s.ents.length ++ keysT s.tmbs s.tmbs.length).Nodup := by
  have e : keysR s.ents s.tmbs s.ents.length s.tmbs.length = (keysE s.ents s.ents.length ++ keysT s.tmbs s.tmbs.length).reverse := by
    unfold keysR keysE keysT
    rw [List.reverse_append]
  unfold keysN
  rw [e]
  exact (List.reverse_perm _).nodup_iff

theorem nodup_snoc {xs : List ByteArray} {x : ByteArray} (h : xs.Nodup) (hx : x ∉ xs) : (xs ++ [x]).Nodup := by
  rw [List.nodup_append]
  refine ⟨h, by simp, fun a ha b hb => ?_⟩
  simp at hb
  subst hb
  exact fun e => hx (e ▸ ha)

theorem inL_b (n a b : Int) (v : Bool) (h : inB n a b = v) (w : World) : Calls Tryz.prog 54 #[.int .i64 n, .int .i64 a, .int .i64 b] w fun e w' => e = .returned (.bool v) ∧ w = w' := by
  subst h
  exact inL_any n a b w

theorem tiered_b (e : GEnt) (b : Bool) (h : b = true ↔ EntP e) (w : World) (hk : e.key.size ≤ 1048576) : Calls Tryz.prog 55 #[.agg #[.int .i64 0, .int .i64 0, .int .i64 e.tier, .int .i64 e.beg, .int .i64 e.fin, .string e.key], .int .i64 0] w fun x w' => x = .returned (.bool b) ∧ Below w.heap.size w w' :=
  (l06Tiered_any ⟨0, 0, e.tier, e.beg, e.fin, e.key⟩ 0 w hk).mono fun x w' ⟨b', hb', he, hB⟩ => ⟨by
    rw [he, Bool.eq_iff_iff.2 (hb'.trans (Iff.trans ?_ h.symm))]
    exact ent_pos (e := ⟨e.tier, e.beg, e.fin, e.key⟩), hB⟩

set_option maxRecDepth 100000 in
theorem l06In_b (A : Option Addr) (c : Nat) (xs : List ByteArray) (t : ByteArray) (b : Bool) (hb : b = true ↔ t ∈ xs) (B : Nat) (w : World) (h : Sl cxV 1 w B A xs) (hl : xs.length ≤ 1048576) : Calls Tryz.prog 56 #[.slice A xs.length c, .string t] w fun e w' => e = .returned (.bool b) ∧ w = w' := by
  have H := Lib.hid h; clear h
  have HB := Lib.hid hb; clear hb
  go_enter Tryz.func56, Tryz.ntmps56
  go_wp2_with fail
  go_loopw [5] (fun i wr => ∃ k : Nat, k ≤ xs.length ∧ i = .int .i64 k ∧ Hid (∀ j (h : j < xs.length), j < k → xs[j] ≠ t) ∧ wr = w) (fun i _ => xs.length - (intOf i).toNat)
  case atStart => exact ⟨0, by omega, rfl, Lib.hid (fun j _ h => by omega), rfl⟩
  case round =>
    obtain ⟨k, hk, rfl, HN, rfl⟩ := hrel
    by_cases hlt : k < xs.length
    · obtain ⟨b1, o1, rfl, hb1, hc⟩ := Sl.at_ H.out hlt
      have p0 := hc 0 (.string xs[k]) rfl
      simp only [Nat.mul_one, Nat.add_zero] at p0
      clear hc
      by_cases e : xs[k] = t
      · have d : (xs[k].toList == t.toList) = true := by rw [e]; simp
        have HY := Lib.hid (show b = true from HB.out.2 (e ▸ List.getElem_mem hlt))
        clear e
        go_wp2
        go_ret
        exact ⟨by rw [HY.out]; rfl, rfl⟩
      · have d := ne_list e
        have HN2 := Lib.hid (show ∀ j (h : j < xs.length), j < k + 1 → xs[j] ≠ t from fun j h hj => by
          by_cases ej : j = k
          · subst ej; exact e
          · exact HN.out j h (by omega))
        clear e
        go_wp2
        go_roundw
        case rel => exact ⟨k + 1, by omega, by go_num, HN2, trivial⟩
        case measure => simp [intOf]; omega
    · obtain rfl : k = xs.length := by omega
      have HF := Lib.hid (show b = false from by
        cases hbb : b
        · rfl
        · obtain ⟨i, hi, e⟩ := List.mem_iff_getElem.1 (HB.out.1 hbb)
          exact absurd e (HN.out i hi hi))
      go_wp2
      go_ret
      exact ⟨by rw [HF.out]; rfl, rfl⟩

theorem l06In_n (A : Option Addr) (c n : Nat) (xs : List ByteArray) (hn : xs.length = n) (t : ByteArray) (b : Bool) (hb : b = true ↔ t ∈ xs) (B : Nat) (w : World) (h : Sl cxV 1 w B A xs) (hl : n ≤ 1048576) : Calls Tryz.prog 56 #[.slice A n c, .string t] w fun e w' => e = .returned (.bool b) ∧ w = w' := by
  subst hn
  exact l06In_b A c xs t b hb B w h hl

theorem own_sl {A : Option Addr} {c n base : Nat} {w : World} {xs : List ByteArray} (hn : xs.length = n) (h : OwnSl cxV 1 9 base w (.slice A n c) xs) : Sl cxV 1 w w.heap.size A xs := by
  subst hn
  exact (OwnSl.sl h (fun x => rfl)).1

theorem own_set {A : Option Addr} {c n base y : Nat} {w : World} {xs : List ByteArray} (h : OwnSl cxV 1 9 base w (.slice A n c) xs) (hy : y < base) (i : Nat) (v : Value) : OwnSl cxV 1 9 base (w.setCell ⟨y, i, none⟩ v) (.slice A n c) xs :=
  h.kept (row := some y) (grown_setCell (World.grownBy.refl _ _) ⟨y, i, none⟩ (Or.inl rfl) v) (Or.inr (fun e => by have := (World.ownsRow.lt h y e).1; omega))

set_option maxRecDepth 100000 in
set_option maxHeartbeats 16000000 in
theorem specStateOK_any (A : Option Addr) (c : Nat) (A2 : Option Addr) (c2 : Nat) (s : GSt) (B : Nat) (w : World) (h : StAt w B A A2 s) (hB : B ≤ w.heap.size) (hf : ∀ o ∈ s.ents, o.small) (hf2 : ∀ o ∈ s.tmbs, o.small) (hl : s.ents.length ≤ 1048576) (hl2 : s.tmbs.length ≤ 1048576) : Calls Tryz.prog 22 #[.agg #[.int .i64 s.sq, .int .i64 s.fe, .slice A s.ents.length c, .slice A2 s.tmbs.length c2, .int .i64 s.lo.a, .int .i64 s.lo.b, .int .i64 s.lo.c, .int .i64 s.hi.a, .int .i64 s.hi.b, .int .i64 s.hi.c]] w (IsBB (StP s) w) := by
  have H := Lib.hid h; clear h
  have Hf := Lib.hid hf; clear hf
  have Hf2 := Lib.hid hf2; clear hf2
  have bA0 : Below w.heap.size w (w.alloc (.cells #[.int .i64 s.sq, .int .i64 s.fe, .slice A s.ents.length c, .slice A2 s.tmbs.length c2, .int .i64 s.lo.a, .int .i64 s.lo.b, .int .i64 s.lo.c, .int .i64 s.hi.a, .int .i64 s.hi.b, .int .i64 s.hi.c] 34)) := bal (Below.refl _ _) _
  have BA0 := Lib.hid bA0; clear bA0
  have wz : wrap64 ((s.ents.length : Int) + (s.tmbs.length : Int)) = (s.ents.length : Int) + (s.tmbs.length : Int) := by unfold wrap64; omega
  cases hq : inB s.sq 0 999999
  · have HN := Lib.hid (show ¬ StP s from fun h => by have := h.1; rw [hq] at this; cases this)
    go_enter Tryz.func22, Tryz.ntmps22
    go_wp2_with (go_at_call 54; refine (inL_any _ _ _ _).mono ?_; rintro e w' ⟨rfl, rfl⟩)
    go_ret
    exact IsBB.no HN.out BA0.out
  cases hfe : inB s.fe 0 999999
  · have HN := Lib.hid (show ¬ StP s from fun h => by have := h.2.1; rw [hfe] at this; cases this)
    go_enter Tryz.func22, Tryz.ntmps22
    go_wp2_with (go_at_call 54; refine (inL_any _ _ _ _).mono ?_; rintro e w' ⟨rfl, rfl⟩)
    go_ret
    exact IsBB.no HN.out BA0.out
  by_cases hsz : s.ents.length + s.tmbs.length ≤ 4096
  rotate_left
  · have HN := Lib.hid (show ¬ StP s from fun h => hsz h.2.2.1)
    have d4 : decide (4096 < (s.ents.length : Int) + (s.tmbs.length : Int)) = true := by simp; omega
    clear hsz
    go_enter Tryz.func22, Tryz.ntmps22
    go_wp2_with (go_at_call 54; refine (inL_any _ _ _ _).mono ?_; rintro e w' ⟨rfl, rfl⟩)
    go_ret
    exact IsBB.no HN.out BA0.out
  have d4 : decide (4096 < (s.ents.length : Int) + (s.tmbs.length : Int)) = false := by simp; omega
  have HSS := Lib.hid hsz
  go_enter Tryz.func22, Tryz.ntmps22
  go_wp2_with (go_at_call 54; refine (inL_any _ _ _ _).mono ?_; rintro e w' ⟨rfl, rfl⟩)
  have HQ0 := Lib.hid hq; have HFE := Lib.hid hfe
  obtain ⟨WC, hWC⟩ : ∃ WC, WC = ((w.alloc (.cells #[.int .i64 s.sq, .int .i64 s.fe, .slice A s.ents.length c, .slice A2 s.tmbs.length c2, .int .i64 s.lo.a, .int .i64 s.lo.b, .int .i64 s.lo.c, .int .i64 s.hi.a, .int .i64 s.hi.b, .int .i64 s.hi.c] 34)).alloc (.cells #[.int .i64 s.lo.a, .int .i64 s.lo.b, .int .i64 s.lo.c] 24)).alloc (.cells #[] 9) := ⟨_, rfl⟩
  have ca : Cells WC w.heap.size 0 [.int .i64 s.sq, .int .i64 s.fe, .slice A s.ents.length c, .slice A2 s.tmbs.length c2, .int .i64 s.lo.a, .int .i64 s.lo.b, .int .i64 s.lo.c, .int .i64 s.hi.a, .int .i64 s.hi.b, .int .i64 s.hi.c] := by rw [hWC]; exact ((Cells.new w _ _).below (bal (Below.refl _ _) _) (by simp)).below (bal (Below.refl _ _) _) (by simp; omega)
  have ty : Tri WC (w.heap.size + 1) s.lo := by
    rw [hWC]
    have := (Tri.new (w.alloc (.cells #[.int .i64 s.sq, .int .i64 s.fe, .slice A s.ents.length c, .slice A2 s.tmbs.length c2, .int .i64 s.lo.a, .int .i64 s.lo.b, .int .i64 s.lo.c, .int .i64 s.hi.a, .int .i64 s.hi.b, .int .i64 s.hi.c] 34)) s.lo 24).below (bal (Below.refl _ _) (.cells #[] 9)) (by simp)
    simpa using this
  have fy : Free WC (some ⟨w.heap.size + 1, 0, none⟩) := by
    rw [hWC]
    have := Free.below (free_alloc (w.alloc (.cells #[.int .i64 s.sq, .int .i64 s.fe, .slice A s.ents.length c, .slice A2 s.tmbs.length c2, .int .i64 s.lo.a, .int .i64 s.lo.b, .int .i64 s.lo.c, .int .i64 s.hi.a, .int .i64 s.hi.b, .int .i64 s.hi.c] 34)) #[.int .i64 s.lo.a, .int .i64 s.lo.b, .int .i64 s.lo.c] 24 0) (bal (Below.refl _ _) (.cells #[] 9)) (fun b e => by simp [blk] at e; subst e; simp)
    simpa using this
  have o0 : OwnSl cxV 1 9 (w.heap.size + 1 + 1) WC (.slice (some ⟨w.heap.size + 1 + 1, 0, none⟩) 0 0) [] := by
    rw [hWC]
    have := own_empty cxV 1 9 ((w.alloc (.cells #[.int .i64 s.sq, .int .i64 s.fe, .slice A s.ents.length c, .slice A2 s.tmbs.length c2, .int .i64 s.lo.a, .int .i64 s.lo.b, .int .i64 s.lo.c, .int .i64 s.hi.a, .int .i64 s.hi.b, .int .i64 s.hi.c] 34)).alloc (.cells #[.int .i64 s.lo.a, .int .i64 s.lo.b, .int .i64 s.lo.c] 24))
    simpa using this
  have b0 : Below w.heap.size w WC := by rw [hWC]; exact bal (bal (bal (Below.refl _ _) _) _) _
  have s0 : w.heap.size + 1 + 1 < WC.heap.size := by rw [hWC]; simp
  rw [← hWC]
  clear hWC BA0 hq hfe hsz d4 wz
  generalize hx0 : w.heap.size = x0 at *
  have Hx0 := Lib.hid hx0; clear hx0
  obtain ⟨y, hy⟩ : ∃ y, y = x0 + 1 := ⟨_, rfl⟩
  rw [← hy] at ty fy o0 s0 ⊢
  have CA := Lib.hid ca; have TY := Lib.hid ty; have FY := Lib.hid fy; have O0 := Lib.hid o0
  clear ca ty fy o0
  have hxy0 : x0 < y := by omega
  clear hy
  go_loopw [4, 5] (fun ks i wr => ∃ (k : Nat) (Ak : Option Addr) (ck : Nat), k ≤ s.ents.length ∧ ks = .slice Ak k ck ∧ i = .int .i64 k ∧ Hid (OwnSl cxV 1 9 (y + 1) wr (.slice Ak k ck) (keysE s.ents k)) ∧ Hid (SideP s.lo s.ents k) ∧ Hid (Tri wr y (endsOf s.lo (s.ents.take k))) ∧ Hid (Free wr (some ⟨y, 0, none⟩)) ∧ Hid (Cells wr x0 0 [.int .i64 s.sq, .int .i64 s.fe, .slice A s.ents.length c, .slice A2 s.tmbs.length c2, .int .i64 s.lo.a, .int .i64 s.lo.b, .int .i64 s.lo.c, .int .i64 s.hi.a, .int .i64 s.hi.b, .int .i64 s.hi.c]) ∧ Hid (y + 1 < wr.heap.size) ∧ Hid (keysE s.ents k).Nodup ∧ Below x0 w wr) (fun _ i _ => s.ents.length - (intOf i).toNat)
  case atStart => exact ⟨0, _, _, by omega, rfl, rfl, O0, Lib.hid (fun k hk => by omega), TY, FY, CA, Lib.hid s0, Lib.hid (by simp [keysE]), b0⟩
  case round =>
    clear O0 TY FY CA s0 b0
    obtain ⟨k, Ak, ck, hk, rfl, rfl, HO, HD, TY, FY, CA, HS, HND, hb⟩ := hrel
    obtain ⟨t0, t1, t2, t3, t4, t5, t6, t7, t8, t9⟩ := CA.out.ten
    by_cases hlt : k < s.ents.length
    · obtain ⟨b1, o1, rfl, hb1, p0, p1, p2, p3⟩ := EntsAt.one (Sl.below H.out.1 hb (by have := Hx0.out; omega)) hlt
      have hfit : s.ents[k].key.size ≤ 1048576 := Hf.out _ (List.getElem_mem hlt)
      have HSU := Lib.hid (fun (h1 : EntP s.ents[k]) (h2 : s.ents[k].beg = (endsOf s.lo (s.ents.take k)).at s.ents[k].tier) => HD.out.succ hlt h1 h2)
      have HNO := Lib.hid (fun (h : SidesP s) => h.2.1 k hlt hlt)
      have HES := Lib.hid (endsOf_succ s.lo s.ents k hlt)
      have HKS := Lib.hid (keysE_succ s.ents k hlt)
      have HNK := Lib.hid (show keysN s → s.ents[k].key ∉ keysE s.ents k from fun h hm => by
        rw [keysN_iff] at h
        have h2 : (keysE s.ents (k + 1)).Nodup := by
          have e : keysE s.ents s.ents.length = keysE s.ents (k + 1) ++ ((s.ents.drop (k + 1)).map (·.key)) := by
            unfold keysE
            rw [← List.map_append, List.take_length, List.take_append_drop]
          rw [e, List.append_assoc] at h
          exact (List.nodup_append.1 h).1
        rw [HKS.out] at h2
        exact (List.nodup_append.1 h2).2.2 _ hm _ (by simp) rfl)
      have HKL := Lib.hid (keysE_len s.ents k hk)
      have hsy : y < wr.heap.size := by have := HS.out; omega
      have hxy : x0 < wr.heap.size := by omega
      have i1 : (0 : Int) ≤ (k : Int) := by omega
      have i2 : (k : Int) < (s.ents.length : Int) := by omega
      generalize s.ents[k] = e at *
      go_wp2_with fail
      have q := EntsAt.one (w := wr.alloc (.cells #[.int .i64 e.tier, .int .i64 e.beg, .int .i64 e.fin, .string e.key] 103)) (B := wr.heap.size + 1) (A := some ⟨wr.heap.size, 0, none⟩) (xs := [e]) (fun _ => ⟨wr.heap.size, 0, rfl, by omega, fun i hi => by
        obtain rfl : i = 0 := by simpa using hi
        exact Cells.new wr e.vals _⟩) (k := 0) (by simp)
      obtain ⟨_, _, eq0, _, q0, q1, q2, q3⟩ := q
      injection eq0 with eq0
      injection eq0 with eq1 eq2
      subst eq1 eq2
      simp only [Nat.zero_mul, Nat.zero_add, List.getElem_cons_zero] at q0 q1 q2 q3
      have bA : Below x0 w (wr.alloc (.cells #[.int .i64 e.tier, .int .i64 e.beg, .int .i64 e.fin, .string e.key] 103)) := hb.alloc (Nat.le_of_lt hxy) _
      have bN : Below wr.heap.size wr (wr.alloc (.cells #[.int .i64 e.tier, .int .i64 e.beg, .int .i64 e.fin, .string e.key] 103)) := bal (Below.refl _ _) _
      have TYA := Lib.hid (TY.out.below bN hsy)
      have FYA := Lib.hid (FY.out.below bN (fun b e => by simp [blk] at e; omega))
      have CAA := Lib.hid (CA.out.below bN hxy)
      have HOA := Lib.hid (HO.out.below bN)
      have sA : wr.heap.size < (wr.alloc (.cells #[.int .i64 e.tier, .int .i64 e.beg, .int .i64 e.fin, .string e.key] 103)).heap.size := by simp
      have hs1 := HS.out
      generalize wr.alloc (.cells #[.int .i64 e.tier, .int .i64 e.beg, .int .i64 e.fin, .string e.key] 103) = WA at *
      obtain ⟨z, hz0⟩ : ∃ z, z = wr.heap.size := ⟨_, rfl⟩
      rw [← hz0] at q0 q1 q2 q3 sA hsy hxy hs1 ⊢
      clear p0 p1 p2 p3 TY FY CA HS hb bN hb1 HD hz0 HO t0 t1 t2 t3 t4 t5 t6 t7 t8 t9
      by_cases he : EntP e
      rotate_left
      · have HE := Lib.hid he; have HK := Lib.hid hfit
        have HN := Lib.hid (show ¬ StP s from fun h => he (HNO.out h.2.2.2.1).1)
        clear he hfit
        refine wp_region_noPanic ?_
        refine wp_region_held_drew (S := (fun w' => w'.cell? ⟨z, 0, none⟩ = some (.int .i64 e.tier) ∧ w'.cell? ⟨z, 1, none⟩ = some (.int .i64 e.beg) ∧ w'.cell? ⟨z, 2, none⟩ = some (.int .i64 e.fin) ∧ w'.cell? ⟨z, 3, none⟩ = some (.string e.key))) (by kernel_rfl) (⟨q0, q1, q2, q3⟩) (fun hHeld => ?_)
        refine kT 0 ?_
        go_frame
        refine kT 1 ?_
        go_frame
        refine kT 2 ?_
        go_frame
        refine kT 3 ?_
        go_frame
        refine kT 4 ?_
        go_frame
        refine kT 5 ?_
        go_frame
        refine kT 6 ?_
        go_frame
        refine kT 7 ?_
        go_frame
        refine kT 8 ?_
        go_frame
        refine wpAnyH_ready (rs := [9]) (by kernel_rfl) (by simp) ?_
        refine AllReadyH.cons (o := { dst := some 57, op := Op.call { callee := Callee.value (Operand.func 55), args := #[Operand.tmp 56, Operand.const (Value.int IntKind.i64 0)], argTypes := #[38, 3] }, type := 4, pos := "l06_manifest.go:79", after := #[{ on := 8, ground := Ground.data }], guard := none }) rfl (fun K hK => ?_) AllReadyH.nil
        go_simp
        refine (tiered_b e false (by simp only [HE.out, Bool.false_eq_true]) _ (by have := HK.out; omega)).mono ?_
        rintro e5 w5 ⟨rfl, hb5⟩
        go_wp2_with fail
        refine hK.out _ _ (⟨(hb5.cell (by exact sA)).trans q0, (hb5.cell (by exact sA)).trans q1, (hb5.cell (by exact sA)).trans q2, (hb5.cell (by exact sA)).trans q3⟩) (fun hHeld => ?_)
        clear hK K
        try simp only [Act.put, List.setIfInBounds_toArray, List.set_cons_zero, List.set_cons_succ]
        refine kT 10 ?_
        go_frame
        refine kT 11 ?_
        go_frame
        refine kS 12 ?_
        go_frame
        refine kS 13 ?_
        go_frame
        refine kS 14 ?_
        go_frame
        refine kS 15 ?_
        go_frame
        refine kS 16 ?_
        go_frame
        refine kS 17 ?_
        go_frame
        refine kS 18 ?_
        go_frame
        refine kT 19 ?_
        go_frame
        refine kT 20 ?_
        go_frame
        refine kS 21 ?_
        go_frame
        refine kS 22 ?_
        go_frame
        refine kS 23 ?_
        go_frame
        refine wpAnyH_take (i := 24) (oi := { dst := some 72, op := Op.call { callee := Callee.value (Operand.func 56), args := #[Operand.tmp 69, Operand.tmp 71], argTypes := #[102, 9] }, type := 4, pos := "l06_manifest.go:79", after := #[{ on := 21, ground := Ground.data }, { on := 23, ground := Ground.data }, { on := 20, ground := Ground.chain }, { on := 20, ground := Ground.guard }], guard := some (20, false) }) (v := undef) rfl (by kernel_rfl) (by kernel_rfl) (by kernel_rfl) (fun _ _ _ h => h) (Or.inr ⟨by rfl, rfl⟩) (by assumption) ?_
        try simp only [Act.put, List.setIfInBounds_toArray, List.set_cons_zero, List.set_cons_succ]
        refine kT 25 ?_
        go_frame
        refine wpAnyH_done (by kernel_rfl) ?_ _
        refine NoPanic.normal ?_
        have b5 := bA.drew.trans (hb5.mono (by show x0 ≤ WA.heap.size; omega))
        clear hb5 q0 q1 q2 q3 hHeld
        go_wp2
        go_ret
        exact IsBB.no HN.out (by rw [Hx0.out]; exact b5)
      have ht := he.tier
      have HE := Lib.hid he; have HK := Lib.hid hfit
      clear he hfit
      obtain ⟨ti, bg, fi, ky⟩ := e
      dsimp only at *
      obtain ⟨j, rfl⟩ := Int.eq_ofNat_of_zero_le ht.1
      have hj3 : j < 3 := by omega
      have j1 : (0 : Int) ≤ (j : Int) := by omega
      have j2 : (j : Int) < 3 := by omega
      have q4 := tri_at TYA.out hj3
      by_cases hbg : bg = (endsOf s.lo (s.ents.take k)).at (j : Int)
      rotate_left
      · have HN := Lib.hid (show ¬ StP s from fun h => hbg (HNO.out h.2.2.2.1).2)
        have dn : (bg != (endsOf s.lo (s.ents.take k)).at (j : Int)) = true := by simpa using hbg
        have dn2 : (bg == (endsOf s.lo (s.ents.take k)).at (j : Int)) = false := by simpa using hbg
        clear hbg ht
        generalize (endsOf s.lo (s.ents.take k)).at (j : Int) = v at *
        refine wp_region_noPanic ?_
        refine wp_region_held_drew (S := (fun w' => w'.cell? ⟨z, 0, none⟩ = some (.int .i64 (j : Int)) ∧ w'.cell? ⟨z, 1, none⟩ = some (.int .i64 bg) ∧ w'.cell? ⟨z, 2, none⟩ = some (.int .i64 fi) ∧ w'.cell? ⟨z, 3, none⟩ = some (.string ky) ∧ w'.cell? ⟨y, j, none⟩ = some (.int .i64 v))) (by kernel_rfl) (⟨q0, q1, q2, q3, q4⟩) (fun hHeld => ?_)
        refine kT 0 ?_
        go_frame
        refine kT 1 ?_
        go_frame
        refine kT 2 ?_
        go_frame
        refine kT 3 ?_
        go_frame
        refine kT 4 ?_
        go_frame
        refine kT 5 ?_
        go_frame
        refine kT 6 ?_
        go_frame
        refine kT 7 ?_
        go_frame
        refine kT 8 ?_
        go_frame
        refine wpAnyH_ready (rs := [9]) (by kernel_rfl) (by simp) ?_
        refine AllReadyH.cons (o := { dst := some 57, op := Op.call { callee := Callee.value (Operand.func 55), args := #[Operand.tmp 56, Operand.const (Value.int IntKind.i64 0)], argTypes := #[38, 3] }, type := 4, pos := "l06_manifest.go:79", after := #[{ on := 8, ground := Ground.data }], guard := none }) rfl (fun K hK => ?_) AllReadyH.nil
        go_simp
        refine (tiered_b ⟨(j : Int), bg, fi, ky⟩ true (by simp only [HE.out, Bool.false_eq_true]) _ (by have := HK.out; omega)).mono ?_
        rintro e5 w5 ⟨rfl, hb5⟩
        go_wp2_with fail
        refine hK.out _ _ (⟨(hb5.cell (by exact sA)).trans q0, (hb5.cell (by exact sA)).trans q1, (hb5.cell (by exact sA)).trans q2, (hb5.cell (by exact sA)).trans q3, (hb5.cell (p := ⟨y, j, none⟩) (by show y < WA.heap.size; omega)).trans q4⟩) (fun hHeld => ?_)
        clear hK K
        try simp only [Act.put, List.setIfInBounds_toArray, List.set_cons_zero, List.set_cons_succ]
        refine kT 10 ?_
        go_frame
        refine kT 11 ?_
        go_frame
        refine kT 12 ?_
        go_frame
        refine kT 13 ?_
        go_frame
        refine kT 14 ?_
        go_frame
        refine kT 15 ?_
        go_frame
        refine kT 16 ?_
        go_frame
        refine kT 17 ?_
        go_frame
        refine kT 18 ?_
        go_frame
        refine kT 19 ?_
        go_frame
        refine kT 20 ?_
        go_frame
        refine kS 21 ?_
        go_frame
        refine kS 22 ?_
        go_frame
        refine kS 23 ?_
        go_frame
        refine wpAnyH_take (i := 24) (oi := { dst := some 72, op := Op.call { callee := Callee.value (Operand.func 56), args := #[Operand.tmp 69, Operand.tmp 71], argTypes := #[102, 9] }, type := 4, pos := "l06_manifest.go:79", after := #[{ on := 21, ground := Ground.data }, { on := 23, ground := Ground.data }, { on := 20, ground := Ground.chain }, { on := 20, ground := Ground.guard }], guard := some (20, false) }) (v := undef) rfl (by kernel_rfl) (by kernel_rfl) (by kernel_rfl) (fun _ _ _ h => h) (Or.inr ⟨by rfl, rfl⟩) (by assumption) ?_
        try simp only [Act.put, List.setIfInBounds_toArray, List.set_cons_zero, List.set_cons_succ]
        refine kT 25 ?_
        go_frame
        refine wpAnyH_done (by kernel_rfl) ?_ _
        refine NoPanic.normal ?_
        have b5 := bA.drew.trans (hb5.mono (by show x0 ≤ WA.heap.size; omega))
        clear hb5 q0 q1 q2 q3 q4 hHeld
        go_wp2
        go_ret
        exact IsBB.no HN.out (by rw [Hx0.out]; exact b5)
      have dn : (bg != (endsOf s.lo (s.ents.take k)).at (j : Int)) = false := by simpa using hbg
      have dn2 : (bg == (endsOf s.lo (s.ents.take k)).at (j : Int)) = true := by simpa using hbg
      have HSU2 := Lib.hid (HSU.out HE.out hbg)
      clear hbg ht HSU HNO
      generalize (endsOf s.lo (s.ents.take k)).at (j : Int) = v at *
      by_cases hin : ky ∈ keysE s.ents k
      · have HIN := Lib.hid hin
        have HN := Lib.hid (show ¬ StP s from fun h => HNK.out h.2.2.2.2.2 hin)
        clear hin
        refine wp_region_noPanic ?_
        refine wp_region_held_drew (S := (fun w' => w'.cell? ⟨z, 0, none⟩ = some (.int .i64 (j : Int)) ∧ w'.cell? ⟨z, 1, none⟩ = some (.int .i64 bg) ∧ w'.cell? ⟨z, 2, none⟩ = some (.int .i64 fi) ∧ w'.cell? ⟨z, 3, none⟩ = some (.string ky) ∧ w'.cell? ⟨y, j, none⟩ = some (.int .i64 v))) (by kernel_rfl) (⟨q0, q1, q2, q3, q4⟩) (fun hHeld => ?_)
        refine kT 0 ?_
        go_frame
        refine kT 1 ?_
        go_frame
        refine kT 2 ?_
        go_frame
        refine kT 3 ?_
        go_frame
        refine kT 4 ?_
        go_frame
        refine kT 5 ?_
        go_frame
        refine kT 6 ?_
        go_frame
        refine kT 7 ?_
        go_frame
        refine kT 8 ?_
        go_frame
        refine wpAnyH_ready (rs := [9]) (by kernel_rfl) (by simp) ?_
        refine AllReadyH.cons (o := { dst := some 57, op := Op.call { callee := Callee.value (Operand.func 55), args := #[Operand.tmp 56, Operand.const (Value.int IntKind.i64 0)], argTypes := #[38, 3] }, type := 4, pos := "l06_manifest.go:79", after := #[{ on := 8, ground := Ground.data }], guard := none }) rfl (fun K hK => ?_) AllReadyH.nil
        go_simp
        refine (tiered_b ⟨(j : Int), bg, fi, ky⟩ true (by simp only [HE.out, Bool.false_eq_true]) _ (by have := HK.out; omega)).mono ?_
        rintro e5 w5 ⟨rfl, hb5⟩
        go_wp2_with fail
        refine hK.out _ _ (⟨(hb5.cell (by exact sA)).trans q0, (hb5.cell (by exact sA)).trans q1, (hb5.cell (by exact sA)).trans q2, (hb5.cell (by exact sA)).trans q3, (hb5.cell (p := ⟨y, j, none⟩) (by show y < WA.heap.size; omega)).trans q4⟩) (fun hHeld => ?_)
        clear hK K
        try simp only [Act.put, List.setIfInBounds_toArray, List.set_cons_zero, List.set_cons_succ]
        refine kT 10 ?_
        go_frame
        refine kT 11 ?_
        go_frame
        refine kT 12 ?_
        go_frame
        refine kT 13 ?_
        go_frame
        refine kT 14 ?_
        go_frame
        refine kT 15 ?_
        go_frame
        refine kT 16 ?_
        go_frame
        refine kT 17 ?_
        go_frame
        refine kT 18 ?_
        go_frame
        refine kT 19 ?_
        go_frame
        refine kT 20 ?_
        go_frame
        refine kT 21 ?_
        go_frame
        refine kT 22 ?_
        go_frame
        refine kT 23 ?_
        go_frame
        refine wpAnyH_ready (rs := [24]) (by kernel_rfl) (by simp) ?_
        refine AllReadyH.cons (o := { dst := some 72, op := Op.call { callee := Callee.value (Operand.func 56), args := #[Operand.tmp 69, Operand.tmp 71], argTypes := #[102, 9] }, type := 4, pos := "l06_manifest.go:79", after := #[{ on := 21, ground := Ground.data }, { on := 23, ground := Ground.data }, { on := 20, ground := Ground.chain }, { on := 20, ground := Ground.guard }], guard := some (20, false) }) rfl (fun K hK => ?_) AllReadyH.nil
        go_simp
        have hbW : Below WA.heap.size WA w5 := (Below.refl _ _).drew.trans hb5
        refine (l06In_n Ak ck k (keysE s.ents k) HKL.out ky true (by simp only [HIN.out, Bool.false_eq_true]) w5.heap.size w5 (own_sl HKL.out (HOA.out.below hbW)) (by omega)).mono ?_
        rintro e6 w6 ⟨rfl, rfl⟩
        go_wp2_with fail
        refine hK.out _ _ (⟨(hbW.cell (by exact sA)).trans q0, (hbW.cell (by exact sA)).trans q1, (hbW.cell (by exact sA)).trans q2, (hbW.cell (by exact sA)).trans q3, (hbW.cell (p := ⟨y, j, none⟩) (by show y < WA.heap.size; omega)).trans q4⟩) (fun hHeld => ?_)
        clear hK K
        try simp only [Act.put, List.setIfInBounds_toArray, List.set_cons_zero, List.set_cons_succ]
        refine kT 25 ?_
        go_frame
        refine wpAnyH_done (by kernel_rfl) ?_ _
        refine NoPanic.normal ?_
        have b5 := bA.drew.trans (hb5.mono (by show x0 ≤ WA.heap.size; omega))
        clear hb5 hbW q0 q1 q2 q3 q4 hHeld
        go_wp2
        go_ret
        exact IsBB.no HN.out (by rw [Hx0.out]; exact b5)
      have HIN := Lib.hid hin
      have HND2 := Lib.hid (show (keysE s.ents (k + 1)).Nodup by rw [HKS.out]; exact nodup_snoc HND.out hin)
      clear hin HND
      refine wp_region_noPanic ?_
      refine wp_region_held_drew (S := (fun w' => w'.cell? ⟨z, 0, none⟩ = some (.int .i64 (j : Int)) ∧ w'.cell? ⟨z, 1, none⟩ = some (.int .i64 bg) ∧ w'.cell? ⟨z, 2, none⟩ = some (.int .i64 fi) ∧ w'.cell? ⟨z, 3, none⟩ = some (.string ky) ∧ w'.cell? ⟨y, j, none⟩ = some (.int .i64 v))) (by kernel_rfl) (⟨q0, q1, q2, q3, q4⟩) (fun hHeld => ?_)
      refine kT 0 ?_
      go_frame
      refine kT 1 ?_
      go_frame
      refine kT 2 ?_
      go_frame
      refine kT 3 ?_
      go_frame
      refine kT 4 ?_
      go_frame
      refine kT 5 ?_
      go_frame
      refine kT 6 ?_
      go_frame
      refine kT 7 ?_
      go_frame
      refine kT 8 ?_
      go_frame
      refine wpAnyH_ready (rs := [9]) (by kernel_rfl) (by simp) ?_
      refine AllReadyH.cons (o := { dst := some 57, op := Op.call { callee := Callee.value (Operand.func 55), args := #[Operand.tmp 56, Operand.const (Value.int IntKind.i64 0)], argTypes := #[38, 3] }, type := 4, pos := "l06_manifest.go:79", after := #[{ on := 8, ground := Ground.data }], guard := none }) rfl (fun K hK => ?_) AllReadyH.nil
      go_simp
      refine (tiered_b ⟨(j : Int), bg, fi, ky⟩ true (by simp only [HE.out, Bool.false_eq_true]) _ (by have := HK.out; omega)).mono ?_
      rintro e5 w5 ⟨rfl, hb5⟩
      go_wp2_with fail
      refine hK.out _ _ (⟨(hb5.cell (by exact sA)).trans q0, (hb5.cell (by exact sA)).trans q1, (hb5.cell (by exact sA)).trans q2, (hb5.cell (by exact sA)).trans q3, (hb5.cell (p := ⟨y, j, none⟩) (by show y < WA.heap.size; omega)).trans q4⟩) (fun hHeld => ?_)
      clear hK K
      try simp only [Act.put, List.setIfInBounds_toArray, List.set_cons_zero, List.set_cons_succ]
      refine kT 10 ?_
      go_frame
      refine kT 11 ?_
      go_frame
      refine kT 12 ?_
      go_frame
      refine kT 13 ?_
      go_frame
      refine kT 14 ?_
      go_frame
      refine kT 15 ?_
      go_frame
      refine kT 16 ?_
      go_frame
      refine kT 17 ?_
      go_frame
      refine kT 18 ?_
      go_frame
      refine kT 19 ?_
      go_frame
      refine kT 20 ?_
      go_frame
      refine kT 21 ?_
      go_frame
      refine kT 22 ?_
      go_frame
      refine kT 23 ?_
      go_frame
      refine wpAnyH_ready (rs := [24]) (by kernel_rfl) (by simp) ?_
      refine AllReadyH.cons (o := { dst := some 72, op := Op.call { callee := Callee.value (Operand.func 56), args := #[Operand.tmp 69, Operand.tmp 71], argTypes := #[102, 9] }, type := 4, pos := "l06_manifest.go:79", after := #[{ on := 21, ground := Ground.data }, { on := 23, ground := Ground.data }, { on := 20, ground := Ground.chain }, { on := 20, ground := Ground.guard }], guard := some (20, false) }) rfl (fun K hK => ?_) AllReadyH.nil
      go_simp
      have hbW : Below WA.heap.size WA w5 := (Below.refl _ _).drew.trans hb5
      refine (l06In_n Ak ck k (keysE s.ents k) HKL.out ky false (by simp only [HIN.out, Bool.false_eq_true]) w5.heap.size w5 (own_sl HKL.out (HOA.out.below hbW)) (by omega)).mono ?_
      rintro e6 w6 ⟨rfl, rfl⟩
      go_wp2_with fail
      refine hK.out _ _ (⟨(hbW.cell (by exact sA)).trans q0, (hbW.cell (by exact sA)).trans q1, (hbW.cell (by exact sA)).trans q2, (hbW.cell (by exact sA)).trans q3, (hbW.cell (p := ⟨y, j, none⟩) (by show y < WA.heap.size; omega)).trans q4⟩) (fun hHeld => ?_)
      clear hK K
      try simp only [Act.put, List.setIfInBounds_toArray, List.set_cons_zero, List.set_cons_succ]
      refine kT 25 ?_
      go_frame
      refine wpAnyH_done (by kernel_rfl) ?_ _
      refine NoPanic.normal ?_
      have b5 := bA.drew.trans (hb5.mono (by show x0 ≤ WA.heap.size; omega))
      have TY5 := Lib.hid (TYA.out.below hbW (by omega))
      have FY5 := Lib.hid (FYA.out.below hbW (fun b e => by simp [blk] at e; omega))
      have CA5 := Lib.hid (CAA.out.below hbW (by omega))
      have HO5 := Lib.hid (HOA.out.below hbW)
      have s5 : z < w5.heap.size := Nat.lt_of_lt_of_le sA hbW.size
      have r0 : w5.cell? ⟨z, 0, none⟩ = some (.int .i64 (j : Int)) := (hbW.cell sA).trans q0
      have r2 : w5.cell? ⟨z, 2, none⟩ = some (.int .i64 fi) := (hbW.cell sA).trans q2
      have r3 : w5.cell? ⟨z, 3, none⟩ = some (.string ky) := (hbW.cell sA).trans q3
      have r4 : w5.cell? ⟨y, j, none⟩ = some (.int .i64 v) := (hbW.cell (p := ⟨y, j, none⟩) (by show y < _; omega)).trans q4
      have f4 : w5.frozen? ⟨y, j, none⟩ = false := FY5.out y rfl j
      clear hb5 hbW TYA FYA CAA HOA bA q0 q1 q2 q3 q4 hHeld dn dn2
      go_upto_region 12 with fail
      have TN := Lib.hid (show Tri (w5.setCell ⟨y, j, none⟩ (.int .i64 fi)) y (endsOf s.lo (s.ents.take (k + 1))) by rw [HES.out]; exact tri_set TY5.out hj3 fi)
      have FN := Lib.hid (Free.setCell FY5.out ⟨y, j, none⟩ (.int .i64 fi))
      have CN := Lib.hid (CA5.out.far (p := ⟨y, j, none⟩) (by show x0 ≠ y; omega) (.int .i64 fi))
      have bNN : Below x0 w (w5.setCell ⟨y, j, none⟩ (.int .i64 fi)) := b5.setCell (by show x0 ≤ y; omega) _
      have ON := Lib.hid (own_set HO5.out (y := y) (by omega) j (.int .i64 fi))
      have rn : (w5.setCell ⟨y, j, none⟩ (.int .i64 fi)).cell? ⟨z, 3, none⟩ = some (.string ky) := (World.cell?_setCell_other w5 ⟨y, j, none⟩ ⟨z, 3, none⟩ _ (fun e => by injection e with e; omega)).trans r3
      have sN : z < (w5.setCell ⟨y, j, none⟩ (.int .i64 fi)).heap.size := by rw [size_setCell]; exact s5
      clear TY5 FY5 CA5 HO5 b5 r0 r2 r3 r4 f4 s5
      generalize w5.setCell ⟨y, j, none⟩ (.int .i64 fi) = W8 at *
      have HO8 := Lib.hid (ON.out.below (bal (Below.refl _ W8) (.cells #[.string ky] 9)))
      have HNw := Lib.hid (new_cx W8 ky 9)
      have Hb8 := Lib.hid (bNN.alloc (by omega : x0 ≤ W8.heap.size) (.cells #[.string ky] 9))
      have TN8 := Lib.hid (TN.out.below (bal (Below.refl _ W8) (.cells #[.string ky] 9)) (by omega))
      have FN8 := Lib.hid (FN.out.below (bal (Below.refl _ W8) (.cells #[.string ky] 9)) (fun b e => by simp [blk] at e; omega))
      have CN8 := Lib.hid (CN.out.below (bal (Below.refl _ W8) (.cells #[.string ky] 9)) (by omega))
      clear TN FN CN bNN ON
      go_wp2_with (at_builtin; refine wpList_append_sl cxV 1 16 (fun _ => rfl) cxV_one 102 9 _ infoCx rfl (by omega) Tryz.underlying102 rfl _ _ rfl (y + 1) (keysE s.ents k) [ky] (.slice Ak k ck) rfl HO8.out (some ⟨W8.heap.size, 0, none⟩) 1 (W8.heap.size + 1) rfl HNw.out (by rw [HKL.out]; simp [maxLen]; omega) (by rw [HKL.out]; simp; omega) (by simp; omega) ?_; intro v' w9 hO9 hg9 _; obtain ⟨A9, c9, rfl⟩ := hO9.form; have HO9 := Lib.hid hO9; clear hO9; have Hg9 := Lib.hid hg9; clear hg9)
      have hsz8 : W8.heap.size < (W8.alloc (.cells #[.string ky] 9)).heap.size := by simp
      have hrow : ∀ g, Value.ownBlock (.slice Ak k ck) = some g → y + 1 ≤ g := fun g e => (World.ownsRow.lt HO8.out g e).1
      have b9 : Below x0 w w9 := Hb8.out.trans (below_of_grown Hg9.out (by omega) (fun g e => by have := hrow g e; omega))
      have bg9 : Below (y + 1) (W8.alloc (.cells #[.string ky] 9)) w9 := below_of_grown Hg9.out (by omega) hrow
      have TY9 := Lib.hid (TN8.out.below bg9 (by omega))
      have FY9 := Lib.hid (FN8.out.below bg9 (fun b e => by simp [blk] at e; omega))
      have CA9 := Lib.hid (CN8.out.below bg9 (by omega))
      have S9 := Lib.hid (show y + 1 < w9.heap.size by have := bg9.size; omega)
      have hlen : (keysE s.ents k ++ [ky]).length = k + 1 := by rw [List.length_append, HKL.out]; rfl
      have HO10 := Lib.hid (show OwnSl cxV 1 9 (y + 1) w9 (.slice A9 (k + 1) c9) (keysE s.ents (k + 1)) by rw [HKS.out, ← hlen]; exact HO9.out)
      clear bg9 hrow Hg9 HO9 HO8 Hb8 TN8 FN8 CN8 hsz8 hlen rn sN
      exact ⟨⟨k + 1, A9, c9, by omega, by rw [HKL.out], by go_num, HO10, HSU2, TY9, FY9, CA9, S9, HND2, b9⟩, by simp [intOf]; omega⟩
    · obtain rfl : k = s.ents.length := by omega
      have HSD := Lib.hid (show SideP s.lo s.ents s.ents.length from HD.out)
      clear HD hk hlt
      go_wp2_with fail
      go_loopw [4, 7] (fun ks i wr => ∃ (k : Nat) (Ak : Option Addr) (ck : Nat), k ≤ s.tmbs.length ∧ ks = .slice Ak (s.ents.length + k) ck ∧ i = .int .i64 k ∧ Hid (OwnSl cxV 1 9 (y + 1) wr (.slice Ak (s.ents.length + k) ck) (keysE s.ents s.ents.length ++ keysT s.tmbs k)) ∧ Hid (RestP s.sq s.tmbs k) ∧ Hid (Tri wr y (endsOf s.lo (s.ents.take s.ents.length))) ∧ Hid (Cells wr x0 0 [.int .i64 s.sq, .int .i64 s.fe, .slice A s.ents.length c, .slice A2 s.tmbs.length c2, .int .i64 s.lo.a, .int .i64 s.lo.b, .int .i64 s.lo.c, .int .i64 s.hi.a, .int .i64 s.hi.b, .int .i64 s.hi.c]) ∧ Hid (y + 1 < wr.heap.size) ∧ Hid (keysE s.ents s.ents.length ++ keysT s.tmbs k).Nodup ∧ Below x0 w wr) (fun _ i _ => s.tmbs.length - (intOf i).toNat)
      case atStart => exact ⟨0, _, _, by omega, rfl, rfl, Lib.hid (by simpa [keysT] using HO.out), Lib.hid (fun k hk => by omega), TY, CA, HS, Lib.hid (by simpa [keysT] using HND.out), hb⟩
      case round =>
        clear HO TY FY CA HS HND hb t0 t1 t2 t3 t4 t5 t6 t7 t8 t9
        obtain ⟨k, Ak, ck, hk, rfl, rfl, HO, HD, TY, CA, HS, HND, hb⟩ := hrel
        obtain ⟨t0, t1, t2, t3, t4, t5, t6, t7, t8, t9⟩ := CA.out.ten
        by_cases hlt : k < s.tmbs.length
        · obtain ⟨b1, o1, rfl, hb1, p0, p1⟩ := TmbsAt.one (Sl.below H.out.2 hb (by have := Hx0.out; omega)) hlt
          have hfit := Hf2.out _ (List.getElem_mem hlt)
          have HSU := Lib.hid (fun (h1 : TmbP s.sq s.tmbs[k]) => HD.out.succ hlt h1)
          have HNO := Lib.hid (fun (h : StP s) => h.2.2.2.2.1 k hlt hlt)
          have HKS := Lib.hid (keysT_succ s.tmbs k hlt)
          have HNK := Lib.hid (show keysN s → s.tmbs[k].key ∉ keysE s.ents s.ents.length ++ keysT s.tmbs k from fun h hm => by
            rw [keysN_iff] at h
            have h2 : (keysE s.ents s.ents.length ++ keysT s.tmbs (k + 1)).Nodup := by
              have e : keysT s.tmbs s.tmbs.length = keysT s.tmbs (k + 1) ++ ((s.tmbs.drop (k + 1)).map (·.key)) := by
                unfold keysT
                rw [← List.map_append, List.take_length, List.take_append_drop]
              rw [e, ← List.append_assoc] at h
              exact (List.nodup_append.1 h).1
            rw [HKS.out, ← List.append_assoc] at h2
            exact (List.nodup_append.1 h2).2.2 _ hm _ (by simp) rfl)
          have HKL := Lib.hid (show (keysE s.ents s.ents.length ++ keysT s.tmbs k).length = s.ents.length + k by rw [List.length_append, keysE_len _ _ (Nat.le_refl _), keysT_len _ _ hk])
          have hsy : y < wr.heap.size := by have := HS.out; omega
          have hxy : x0 < wr.heap.size := by omega
          have i1 : (0 : Int) ≤ (k : Int) := by omega
          have i2 : (k : Int) < (s.tmbs.length : Int) := by omega
          have bx : b1 < wr.heap.size := by have := hb.size; have := Hx0.out; omega
          generalize s.tmbs[k] = tb at *
          obtain ⟨tq, tk⟩ := tb
          dsimp only at *
          have HKY := Lib.hid (show tk.size ≤ 1048576 from hfit)
          clear hfit
          go_wp2_with fail
          refine (toKey_b tk wr HKY.out).mono ?_
          rintro e5 w5 ⟨kt, kn, km, bk, rfl, hbk, hb5⟩
          have b5 : Below x0 w w5 := hb.trans (hb5.mono (Nat.le_of_lt hxy))
          have TY5 := Lib.hid (TY.out.below hb5 hsy)
          have CA5 := Lib.hid (CA.out.below hb5 hxy)
          have HO5 := Lib.hid (HO.out.below hb5)
          have s5 : y + 1 < w5.heap.size := Nat.lt_of_lt_of_le HS.out hb5.size
          have q2 : w5.cell? ⟨b1, o1 + k * 2, none⟩ = some (.int .i64 tq) := (hb5.cell (p := ⟨b1, o1 + k * 2, none⟩) bx).trans p0
          have q3 : w5.cell? ⟨b1, o1 + k * 2 + 1, none⟩ = some (.string tk) := (hb5.cell (p := ⟨b1, o1 + k * 2 + 1, none⟩) bx).trans p1
          have HBK := Lib.hid hbk
          clear hbk p0 p1 TY CA HO HS hb hb5 t0 t1 t2 t3 t4 t5 t6 t7 t8 t9 hb1 HD hsy hxy bx
          have q0 : w5.cell? ⟨x0, 0, none⟩ = some (.int .i64 s.sq) := CA5.out 0 _ rfl
          have q1 : w5.cell? ⟨x0, 3, none⟩ = some (.slice (some ⟨b1, o1, none⟩) s.tmbs.length c2) := CA5.out 3 _ rfl
          cases bk
          · have HN := Lib.hid (show ¬ StP s from fun h => by have := HBK.out.2 (HNO.out h).2; cases this)
            clear HBK
            go_wp2_with fail
            refine wp_region_noPanic ?_
            refine wp_region_held_drew (S := (fun w' => w'.cell? ⟨x0, 0, none⟩ = some (.int .i64 s.sq) ∧ w'.cell? ⟨x0, 3, none⟩ = some (.slice (some ⟨b1, o1, none⟩) s.tmbs.length c2) ∧ w'.cell? ⟨b1, o1 + k * 2, none⟩ = some (.int .i64 tq) ∧ w'.cell? ⟨b1, o1 + k * 2 + 1, none⟩ = some (.string tk))) (by kernel_rfl) (⟨q0, q1, q2, q3⟩) (fun hHeld => ?_)
            refine kT 0 ?_
            go_frame
            refine kT 1 ?_
            go_frame
            refine kT 2 ?_
            go_frame
            refine kS 3 ?_
            go_frame
            refine kS 4 ?_
            go_frame
            refine kS 5 ?_
            go_frame
            refine kS 6 ?_
            go_frame
            refine kS 7 ?_
            go_frame
            refine kS 8 ?_
            go_frame
            refine kS 9 ?_
            go_frame
            refine kS 10 ?_
            go_frame
            refine wpAnyH_take (i := 11) (oi := { dst := some 114, op := Op.call { callee := Callee.value (Operand.func 54), args := #[Operand.tmp 111, Operand.const (Value.int IntKind.i64 1), Operand.tmp 113], argTypes := #[3, 3, 3] }, type := 4, pos := "l06_manifest.go:87", after := #[{ on := 8, ground := Ground.data }, { on := 10, ground := Ground.data }, { on := 2, ground := Ground.chain }, { on := 2, ground := Ground.guard }], guard := some (2, false) }) (v := undef) rfl (by kernel_rfl) (by kernel_rfl) (by kernel_rfl) (fun _ _ _ h => h) (Or.inr ⟨by rfl, rfl⟩) (by assumption) ?_
            try simp only [Act.put, List.setIfInBounds_toArray, List.set_cons_zero, List.set_cons_succ]
            refine kS 12 ?_
            go_frame
            refine kT 13 ?_
            go_frame
            refine kT 14 ?_
            go_frame
            refine kS 15 ?_
            go_frame
            refine kS 16 ?_
            go_frame
            refine kS 17 ?_
            go_frame
            refine kS 18 ?_
            go_frame
            refine kS 19 ?_
            go_frame
            refine kS 20 ?_
            go_frame
            refine kS 21 ?_
            go_frame
            refine wpAnyH_take (i := 22) (oi := { dst := some 125, op := Op.call { callee := Callee.value (Operand.func 56), args := #[Operand.tmp 118, Operand.tmp 124], argTypes := #[102, 9] }, type := 4, pos := "l06_manifest.go:87", after := #[{ on := 15, ground := Ground.data }, { on := 21, ground := Ground.data }, { on := 14, ground := Ground.chain }, { on := 14, ground := Ground.guard }], guard := some (14, false) }) (v := undef) rfl (by kernel_rfl) (by kernel_rfl) (by kernel_rfl) (fun _ _ _ h => h) (Or.inr ⟨by rfl, rfl⟩) (by assumption) ?_
            try simp only [Act.put, List.setIfInBounds_toArray, List.set_cons_zero, List.set_cons_succ]
            refine kT 23 ?_
            go_frame
            refine wpAnyH_done (by kernel_rfl) ?_ _
            refine NoPanic.normal ?_
            clear q0 q1 q2 q3 hHeld
            go_wp2
            go_ret
            exact IsBB.no HN.out (by rw [Hx0.out]; exact b5.drew)
          have HAK := Lib.hid (HBK.out.1 rfl); clear HBK
          cases hq : inB tq 1 s.sq
          · have HN := Lib.hid (show ¬ StP s from fun h => by
              have := (HNO.out h).1
              rw [← inB_iff, hq] at this
              cases this)
            have HQ := Lib.hid hq; clear hq
            go_wp2_with fail
            refine wp_region_noPanic ?_
            refine wp_region_held_drew (S := (fun w' => w'.cell? ⟨x0, 0, none⟩ = some (.int .i64 s.sq) ∧ w'.cell? ⟨x0, 3, none⟩ = some (.slice (some ⟨b1, o1, none⟩) s.tmbs.length c2) ∧ w'.cell? ⟨b1, o1 + k * 2, none⟩ = some (.int .i64 tq) ∧ w'.cell? ⟨b1, o1 + k * 2 + 1, none⟩ = some (.string tk))) (by kernel_rfl) (⟨q0, q1, q2, q3⟩) (fun hHeld => ?_)
            refine kT 0 ?_
            go_frame
            refine kT 1 ?_
            go_frame
            refine kT 2 ?_
            go_frame
            refine kT 3 ?_
            go_frame
            refine kT 4 ?_
            go_frame
            refine kT 5 ?_
            go_frame
            refine kT 6 ?_
            go_frame
            refine kT 7 ?_
            go_frame
            refine kT 8 ?_
            go_frame
            refine kT 9 ?_
            go_frame
            refine kT 10 ?_
            go_frame
            refine wpAnyH_ready (rs := [11]) (by kernel_rfl) (by simp) ?_
            refine AllReadyH.cons (o := { dst := some 114, op := Op.call { callee := Callee.value (Operand.func 54), args := #[Operand.tmp 111, Operand.const (Value.int IntKind.i64 1), Operand.tmp 113], argTypes := #[3, 3, 3] }, type := 4, pos := "l06_manifest.go:87", after := #[{ on := 8, ground := Ground.data }, { on := 10, ground := Ground.data }, { on := 2, ground := Ground.chain }, { on := 2, ground := Ground.guard }], guard := some (2, false) }) rfl (fun K hK => ?_) AllReadyH.nil
            go_simp
            refine (inL_b _ _ _ false (by first | exact HQ.out | rfl) _).mono ?_
            rintro e6 w6 ⟨rfl, rfl⟩
            go_wp2_with fail
            refine hK.out _ _ (⟨q0, q1, q2, q3⟩) (fun hHeld => ?_)
            clear hK K
            try simp only [Act.put, List.setIfInBounds_toArray, List.set_cons_zero, List.set_cons_succ]
            refine kT 12 ?_
            go_frame
            refine kT 13 ?_
            go_frame
            refine kT 14 ?_
            go_frame
            refine kS 15 ?_
            go_frame
            refine kS 16 ?_
            go_frame
            refine kS 17 ?_
            go_frame
            refine kS 18 ?_
            go_frame
            refine kS 19 ?_
            go_frame
            refine kS 20 ?_
            go_frame
            refine kS 21 ?_
            go_frame
            refine wpAnyH_take (i := 22) (oi := { dst := some 125, op := Op.call { callee := Callee.value (Operand.func 56), args := #[Operand.tmp 118, Operand.tmp 124], argTypes := #[102, 9] }, type := 4, pos := "l06_manifest.go:87", after := #[{ on := 15, ground := Ground.data }, { on := 21, ground := Ground.data }, { on := 14, ground := Ground.chain }, { on := 14, ground := Ground.guard }], guard := some (14, false) }) (v := undef) rfl (by kernel_rfl) (by kernel_rfl) (by kernel_rfl) (fun _ _ _ h => h) (Or.inr ⟨by rfl, rfl⟩) (by assumption) ?_
            try simp only [Act.put, List.setIfInBounds_toArray, List.set_cons_zero, List.set_cons_succ]
            refine kT 23 ?_
            go_frame
            refine wpAnyH_done (by kernel_rfl) ?_ _
            refine NoPanic.normal ?_
            clear q0 q1 q2 q3 hHeld
            go_wp2
            go_ret
            exact IsBB.no HN.out (by rw [Hx0.out]; exact b5.drew)
          have HQ := Lib.hid hq; clear hq
          by_cases hin : tk ∈ keysE s.ents s.ents.length ++ keysT s.tmbs k
          · have HIN := Lib.hid hin
            have HN := Lib.hid (show ¬ StP s from fun h => HNK.out h.2.2.2.2.2 hin)
            clear hin
            go_wp2_with fail
            refine wp_region_noPanic ?_
            refine wp_region_held_drew (S := (fun w' => w'.cell? ⟨x0, 0, none⟩ = some (.int .i64 s.sq) ∧ w'.cell? ⟨x0, 3, none⟩ = some (.slice (some ⟨b1, o1, none⟩) s.tmbs.length c2) ∧ w'.cell? ⟨b1, o1 + k * 2, none⟩ = some (.int .i64 tq) ∧ w'.cell? ⟨b1, o1 + k * 2 + 1, none⟩ = some (.string tk))) (by kernel_rfl) (⟨q0, q1, q2, q3⟩) (fun hHeld => ?_)
            refine kT 0 ?_
            go_frame
            refine kT 1 ?_
            go_frame
            refine kT 2 ?_
            go_frame
            refine kT 3 ?_
            go_frame
            refine kT 4 ?_
            go_frame
            refine kT 5 ?_
            go_frame
            refine kT 6 ?_
            go_frame
            refine kT 7 ?_
            go_frame
            refine kT 8 ?_
            go_frame
            refine kT 9 ?_
            go_frame
            refine kT 10 ?_
            go_frame
            refine wpAnyH_ready (rs := [11]) (by kernel_rfl) (by simp) ?_
            refine AllReadyH.cons (o := { dst := some 114, op := Op.call { callee := Callee.value (Operand.func 54), args := #[Operand.tmp 111, Operand.const (Value.int IntKind.i64 1), Operand.tmp 113], argTypes := #[3, 3, 3] }, type := 4, pos := "l06_manifest.go:87", after := #[{ on := 8, ground := Ground.data }, { on := 10, ground := Ground.data }, { on := 2, ground := Ground.chain }, { on := 2, ground := Ground.guard }], guard := some (2, false) }) rfl (fun K hK => ?_) AllReadyH.nil
            go_simp
            refine (inL_b _ _ _ true (by first | exact HQ.out | rfl) _).mono ?_
            rintro e6 w6 ⟨rfl, rfl⟩
            go_wp2_with fail
            refine hK.out _ _ (⟨q0, q1, q2, q3⟩) (fun hHeld => ?_)
            clear hK K
            try simp only [Act.put, List.setIfInBounds_toArray, List.set_cons_zero, List.set_cons_succ]
            refine kT 12 ?_
            go_frame
            refine kT 13 ?_
            go_frame
            refine kT 14 ?_
            go_frame
            refine kT 15 ?_
            go_frame
            refine kT 16 ?_
            go_frame
            refine kT 17 ?_
            go_frame
            refine kT 18 ?_
            go_frame
            refine kT 19 ?_
            go_frame
            refine kT 20 ?_
            go_frame
            refine kT 21 ?_
            go_frame
            refine wpAnyH_ready (rs := [22]) (by kernel_rfl) (by simp) ?_
            refine AllReadyH.cons (o := { dst := some 125, op := Op.call { callee := Callee.value (Operand.func 56), args := #[Operand.tmp 118, Operand.tmp 124], argTypes := #[102, 9] }, type := 4, pos := "l06_manifest.go:87", after := #[{ on := 15, ground := Ground.data }, { on := 21, ground := Ground.data }, { on := 14, ground := Ground.chain }, { on := 14, ground := Ground.guard }], guard := some (14, false) }) rfl (fun K hK => ?_) AllReadyH.nil
            go_simp
            refine (l06In_n Ak ck (s.ents.length + k) (keysE s.ents s.ents.length ++ keysT s.tmbs k) HKL.out tk true (by simp only [HIN.out, Bool.false_eq_true]) _ w5.drew (own_sl HKL.out (HO5.out.below (Below.refl _ _).drew)) (by have := HSS.out; omega)).mono ?_
            rintro e7 w7 ⟨rfl, rfl⟩
            go_wp2_with fail
            refine hK.out _ _ (⟨q0, q1, q2, q3⟩) (fun hHeld => ?_)
            clear hK K
            try simp only [Act.put, List.setIfInBounds_toArray, List.set_cons_zero, List.set_cons_succ]
            refine kT 23 ?_
            go_frame
            refine wpAnyH_done (by kernel_rfl) ?_ _
            refine NoPanic.normal ?_
            clear q0 q1 q2 q3 hHeld
            go_wp2
            go_ret
            exact IsBB.no HN.out (by rw [Hx0.out]; exact b5.drew)
          have HIN := Lib.hid hin
          have HND2 := Lib.hid (show (keysE s.ents s.ents.length ++ keysT s.tmbs (k + 1)).Nodup by rw [HKS.out, ← List.append_assoc]; exact nodup_snoc HND.out hin)
          have HSU2 := Lib.hid (HSU.out ⟨inB_iff.1 HQ.out, HAK.out⟩)
          clear hin HND HSU HNO
          go_wp2_with fail
          refine wp_region_noPanic ?_
          refine wp_region_held_drew (S := (fun w' => w'.cell? ⟨x0, 0, none⟩ = some (.int .i64 s.sq) ∧ w'.cell? ⟨x0, 3, none⟩ = some (.slice (some ⟨b1, o1, none⟩) s.tmbs.length c2) ∧ w'.cell? ⟨b1, o1 + k * 2, none⟩ = some (.int .i64 tq) ∧ w'.cell? ⟨b1, o1 + k * 2 + 1, none⟩ = some (.string tk))) (by kernel_rfl) (⟨q0, q1, q2, q3⟩) (fun hHeld => ?_)
          refine kT 0 ?_
          go_frame
          refine kT 1 ?_
          go_frame
          refine kT 2 ?_
          go_frame
          refine kT 3 ?_
          go_frame
          refine kT 4 ?_
          go_frame
          refine kT 5 ?_
          go_frame
          refine kT 6 ?_
          go_frame
          refine kT 7 ?_
          go_frame
          refine kT 8 ?_
          go_frame
          refine kT 9 ?_
          go_frame
          refine kT 10 ?_
          go_frame
          refine wpAnyH_ready (rs := [11]) (by kernel_rfl) (by simp) ?_
          refine AllReadyH.cons (o := { dst := some 114, op := Op.call { callee := Callee.value (Operand.func 54), args := #[Operand.tmp 111, Operand.const (Value.int IntKind.i64 1), Operand.tmp 113], argTypes := #[3, 3, 3] }, type := 4, pos := "l06_manifest.go:87", after := #[{ on := 8, ground := Ground.data }, { on := 10, ground := Ground.data }, { on := 2, ground := Ground.chain }, { on := 2, ground := Ground.guard }], guard := some (2, false) }) rfl (fun K hK => ?_) AllReadyH.nil
          go_simp
          refine (inL_b _ _ _ true (by first | exact HQ.out | rfl) _).mono ?_
          rintro e6 w6 ⟨rfl, rfl⟩
          go_wp2_with fail
          refine hK.out _ _ (⟨q0, q1, q2, q3⟩) (fun hHeld => ?_)
          clear hK K
          try simp only [Act.put, List.setIfInBounds_toArray, List.set_cons_zero, List.set_cons_succ]
          refine kT 12 ?_
          go_frame
          refine kT 13 ?_
          go_frame
          refine kT 14 ?_
          go_frame
          refine kT 15 ?_
          go_frame
          refine kT 16 ?_
          go_frame
          refine kT 17 ?_
          go_frame
          refine kT 18 ?_
          go_frame
          refine kT 19 ?_
          go_frame
          refine kT 20 ?_
          go_frame
          refine kT 21 ?_
          go_frame
          refine wpAnyH_ready (rs := [22]) (by kernel_rfl) (by simp) ?_
          refine AllReadyH.cons (o := { dst := some 125, op := Op.call { callee := Callee.value (Operand.func 56), args := #[Operand.tmp 118, Operand.tmp 124], argTypes := #[102, 9] }, type := 4, pos := "l06_manifest.go:87", after := #[{ on := 15, ground := Ground.data }, { on := 21, ground := Ground.data }, { on := 14, ground := Ground.chain }, { on := 14, ground := Ground.guard }], guard := some (14, false) }) rfl (fun K hK => ?_) AllReadyH.nil
          go_simp
          refine (l06In_n Ak ck (s.ents.length + k) (keysE s.ents s.ents.length ++ keysT s.tmbs k) HKL.out tk false (by simp only [HIN.out, Bool.false_eq_true]) _ w5.drew (own_sl HKL.out (HO5.out.below (Below.refl _ _).drew)) (by have := HSS.out; omega)).mono ?_
          rintro e7 w7 ⟨rfl, rfl⟩
          go_wp2_with fail
          refine hK.out _ _ (⟨q0, q1, q2, q3⟩) (fun hHeld => ?_)
          clear hK K
          try simp only [Act.put, List.setIfInBounds_toArray, List.set_cons_zero, List.set_cons_succ]
          refine kT 23 ?_
          go_frame
          refine wpAnyH_done (by kernel_rfl) ?_ _
          refine NoPanic.normal ?_
          have hbD : Below w5.heap.size w5 w5.drew := (Below.refl _ _).drew
          have bD : Below x0 w w5.drew := b5.drew
          have TYD := Lib.hid (TY5.out.below hbD (by omega))
          have CAD := Lib.hid (CA5.out.below hbD (by omega))
          have HOD := Lib.hid (HO5.out.below hbD)
          have sD : y + 1 < w5.drew.heap.size := Nat.lt_of_lt_of_le s5 hbD.size
          have bx5 : b1 < w5.heap.size := World.block_lt_of_cell? w5 _ q2
          have q1' : w5.drew.cell? ⟨x0, 3, none⟩ = some (.slice (some ⟨b1, o1, none⟩) s.tmbs.length c2) := (hbD.cell (p := ⟨x0, 3, none⟩) (by show x0 < _; omega)).trans q1
          have q3' : w5.drew.cell? ⟨b1, o1 + k * 2 + 1, none⟩ = some (.string tk) := (hbD.cell (p := ⟨b1, o1 + k * 2 + 1, none⟩) bx5).trans q3
          clear q0 q1 q2 q3 hHeld b5 TY5 CA5 HO5 s5 hbD bx5
          generalize w5.drew = W8 at *
          have HO8 := Lib.hid (HOD.out.below (bal (Below.refl _ W8) (.cells #[.string tk] 9)))
          have HNw := Lib.hid (new_cx W8 tk 9)
          have Hb8 := Lib.hid (bD.alloc (by omega : x0 ≤ W8.heap.size) (.cells #[.string tk] 9))
          have TN8 := Lib.hid (TYD.out.below (bal (Below.refl _ W8) (.cells #[.string tk] 9)) (by omega))
          have CN8 := Lib.hid (CAD.out.below (bal (Below.refl _ W8) (.cells #[.string tk] 9)) (by omega))
          clear TYD CAD HOD bD
          go_wp2_with (at_builtin; refine wpList_append_sl cxV 1 16 (fun _ => rfl) cxV_one 102 9 _ infoCx rfl (by omega) Tryz.underlying102 rfl _ _ rfl (y + 1) (keysE s.ents s.ents.length ++ keysT s.tmbs k) [tk] (.slice Ak (s.ents.length + k) ck) rfl HO8.out (some ⟨W8.heap.size, 0, none⟩) 1 (W8.heap.size + 1) rfl HNw.out (by rw [HKL.out]; simp [maxLen]; omega) (by rw [HKL.out]; simp; omega) (by simp; omega) ?_; intro v' w9 hO9 hg9 _; obtain ⟨A9, c9, rfl⟩ := hO9.form; have HO9 := Lib.hid hO9; clear hO9; have Hg9 := Lib.hid hg9; clear hg9)
          have hsz8 : W8.heap.size < (W8.alloc (.cells #[.string tk] 9)).heap.size := by simp
          have hrow : ∀ g, Value.ownBlock (.slice Ak (s.ents.length + k) ck) = some g → y + 1 ≤ g := fun g e => (World.ownsRow.lt HO8.out g e).1
          have b9 : Below x0 w w9 := Hb8.out.trans (below_of_grown Hg9.out (by omega) (fun g e => by have := hrow g e; omega))
          have bg9 : Below (y + 1) (W8.alloc (.cells #[.string tk] 9)) w9 := below_of_grown Hg9.out (by omega) hrow
          have TY9 := Lib.hid (TN8.out.below bg9 (by omega))
          have CA9 := Lib.hid (CN8.out.below bg9 (by omega))
          have S9 := Lib.hid (show y + 1 < w9.heap.size by have := bg9.size; omega)
          have hlen : (keysE s.ents s.ents.length ++ keysT s.tmbs k ++ [tk]).length = s.ents.length + (k + 1) := by rw [List.length_append, HKL.out]; rfl
          have HO10 := Lib.hid (show OwnSl cxV 1 9 (y + 1) w9 (.slice A9 (s.ents.length + (k + 1)) c9) (keysE s.ents s.ents.length ++ keysT s.tmbs (k + 1)) by rw [HKS.out, ← List.append_assoc, ← hlen]; exact HO9.out)
          clear bg9 hrow Hg9 HO9 HO8 Hb8 TN8 CN8 hsz8 hlen q1' q3' sD
          exact ⟨⟨k + 1, A9, c9, by omega, by rw [keysE_len _ _ (Nat.le_refl _), keysT_len _ _ hk], by go_num, HO10, HSU2, TY9, CA9, S9, HND2, b9⟩, by simp [intOf]; omega⟩
        obtain rfl : k = s.tmbs.length := by omega
        have HRS := Lib.hid (show RestP s.sq s.tmbs s.tmbs.length from HD.out)
        have HKN := Lib.hid (show keysN s from (keysN_iff s).2 HND.out)
        have HV := Lib.hid (show endsOf s.lo s.ents = endsOf s.lo (s.ents.take s.ents.length) by rw [List.take_length])
        clear HD hk hlt HND HO
        generalize endsOf s.lo (s.ents.take s.ents.length) = V at *
        go_wp2_with fail
        go_loopw [12] (fun i wr => ∃ k : Nat, k ≤ 3 ∧ i = .int .i64 (k : Int) ∧ Hid (∀ i, i < k → (0 ≤ s.lo.at (i : Nat) ∧ s.lo.at (i : Nat) ≤ 100000) ∧ s.hi.at (i : Nat) = V.at (i : Nat)) ∧ Hid (Tri wr y V) ∧ Hid (Cells wr x0 0 [.int .i64 s.sq, .int .i64 s.fe, .slice A s.ents.length c, .slice A2 s.tmbs.length c2, .int .i64 s.lo.a, .int .i64 s.lo.b, .int .i64 s.lo.c, .int .i64 s.hi.a, .int .i64 s.hi.b, .int .i64 s.hi.c]) ∧ Below x0 w wr) (fun i _ => 3 - (intOf i).toNat)
        case atStart => exact ⟨0, by omega, rfl, Lib.hid (fun i h => by omega), TY, CA, hb⟩
        case round =>
          clear TY CA HS hb t0 t1 t2 t3 t4 t5 t6 t7 t8 t9
          obtain ⟨k, hk, hi, HL, TY, CA, hb⟩ := hrel
          obtain ⟨t0, t1, t2, t3, t4, t5, t6, t7, t8, t9⟩ := CA.out.ten
          obtain ⟨y0, y1, y2⟩ := TY.out
          by_cases h3 : k < 3
          · rcases (show k = 0 ∨ k = 1 ∨ k = 2 by omega) with rfl | rfl | rfl
            · rw [show ((0 : Nat) : Int) = 0 from rfl] at hi
              subst hi
              cases hq : inB s.lo.a 0 100000
              · have HQ := Lib.hid hq
                have HN := Lib.hid (show ¬ StP s from fun h => by
                  have := h.2.2.2.1.1 0 (by omega)
                  have e : s.lo.at (0 : Nat) = s.lo.a := rfl
                  rw [e, ← inB_iff, hq] at this
                  cases this)
                clear hq
                go_wp2_with fail
                refine wp_region_noPanic ?_
                refine wp_region_held_drew (S := (fun w' => w'.cell? ⟨x0, 4, none⟩ = some (.int .i64 s.lo.a) ∧ w'.cell? ⟨x0, 7, none⟩ = some (.int .i64 s.hi.a) ∧ w'.cell? ⟨y, 0, none⟩ = some (.int .i64 V.a))) (by kernel_rfl) (⟨t4, t7, y0⟩) (fun hHeld => ?_)
                refine kT 0 ?_
                go_frame
                refine kT 1 ?_
                go_frame
                refine kT 2 ?_
                go_frame
                refine kT 3 ?_
                go_frame
                refine wpAnyH_ready (rs := [4]) (by kernel_rfl) (by simp) ?_
                refine AllReadyH.cons (o := { dst := some 144, op := Op.call { callee := Callee.value (Operand.func 54), args := #[Operand.tmp 143, Operand.const (Value.int IntKind.i64 0), Operand.const (Value.int IntKind.i64 100000)], argTypes := #[3, 3, 3] }, type := 4, pos := "l06_manifest.go:93", after := #[{ on := 3, ground := Ground.data }], guard := none }) rfl (fun K hK => ?_) AllReadyH.nil
                go_simp
                refine (inL_b _ _ _ false HQ.out _).mono ?_
                rintro e6 w6 ⟨rfl, rfl⟩
                go_wp2_with fail
                refine hK.out _ _ (⟨t4, t7, y0⟩) (fun hHeld => ?_)
                clear hK K
                try simp only [Act.put, List.setIfInBounds_toArray, List.set_cons_zero, List.set_cons_succ]
                refine kT 5 ?_
                go_frame
                refine kT 6 ?_
                go_frame
                refine kS 7 ?_
                go_frame
                refine kS 8 ?_
                go_frame
                refine kS 9 ?_
                go_frame
                refine kS 10 ?_
                go_frame
                refine kS 11 ?_
                go_frame
                refine kS 12 ?_
                go_frame
                refine kS 13 ?_
                go_frame
                refine kS 14 ?_
                go_frame
                refine kT 15 ?_
                go_frame
                refine wpAnyH_done (by kernel_rfl) ?_ _
                refine NoPanic.normal ?_
                clear hHeld
                go_wp2
                go_ret
                exact IsBB.no HN.out (by rw [Hx0.out]; exact hb.drew)
              have HQ := Lib.hid hq; clear hq
              by_cases hv : s.hi.a = V.a
              rotate_left
              · have HN := Lib.hid (show ¬ StP s from fun h => by
                  have := h.2.2.2.1.2.2
                  rw [HV.out] at this
                  exact hv (by rw [← this]))
                have dn : (s.hi.a != V.a) = true := by simpa using hv
                have dn2 : (s.hi.a == V.a) = false := by simpa using hv
                clear hv
                go_wp2_with fail
                refine wp_region_noPanic ?_
                refine wp_region_held_drew (S := (fun w' => w'.cell? ⟨x0, 4, none⟩ = some (.int .i64 s.lo.a) ∧ w'.cell? ⟨x0, 7, none⟩ = some (.int .i64 s.hi.a) ∧ w'.cell? ⟨y, 0, none⟩ = some (.int .i64 V.a))) (by kernel_rfl) (⟨t4, t7, y0⟩) (fun hHeld => ?_)
                refine kT 0 ?_
                go_frame
                refine kT 1 ?_
                go_frame
                refine kT 2 ?_
                go_frame
                refine kT 3 ?_
                go_frame
                refine wpAnyH_ready (rs := [4]) (by kernel_rfl) (by simp) ?_
                refine AllReadyH.cons (o := { dst := some 144, op := Op.call { callee := Callee.value (Operand.func 54), args := #[Operand.tmp 143, Operand.const (Value.int IntKind.i64 0), Operand.const (Value.int IntKind.i64 100000)], argTypes := #[3, 3, 3] }, type := 4, pos := "l06_manifest.go:93", after := #[{ on := 3, ground := Ground.data }], guard := none }) rfl (fun K hK => ?_) AllReadyH.nil
                go_simp
                refine (inL_b _ _ _ true HQ.out _).mono ?_
                rintro e6 w6 ⟨rfl, rfl⟩
                go_wp2_with fail
                refine hK.out _ _ (⟨t4, t7, y0⟩) (fun hHeld => ?_)
                clear hK K
                try simp only [Act.put, List.setIfInBounds_toArray, List.set_cons_zero, List.set_cons_succ]
                refine kT 5 ?_
                go_frame
                refine kT 6 ?_
                go_frame
                refine kT 7 ?_
                go_frame
                refine kT 8 ?_
                go_frame
                refine kT 9 ?_
                go_frame
                refine kT 10 ?_
                go_frame
                refine kT 11 ?_
                go_frame
                refine kT 12 ?_
                go_frame
                refine kT 13 ?_
                go_frame
                refine kT 14 ?_
                go_frame
                refine kT 15 ?_
                go_frame
                refine wpAnyH_done (by kernel_rfl) ?_ _
                refine NoPanic.normal ?_
                clear hHeld
                go_wp2
                go_ret
                exact IsBB.no HN.out (by rw [Hx0.out]; exact hb.drew)
              have HL2 := Lib.hid (show ∀ i, i < 0 + 1 → (0 ≤ s.lo.at (i : Nat) ∧ s.lo.at (i : Nat) ≤ 100000) ∧ s.hi.at (i : Nat) = V.at (i : Nat) from fun i hi => by
                by_cases e : i = 0
                · subst e
                  exact ⟨inB_iff.1 HQ.out, hv⟩
                · exact HL.out i (by omega))
              have dn : (s.hi.a != V.a) = false := by simpa using hv
              have dn2 : (s.hi.a == V.a) = true := by simpa using hv
              clear hv
              go_wp2_with fail
              refine wp_region_noPanic ?_
              refine wp_region_held_drew (S := (fun w' => w'.cell? ⟨x0, 4, none⟩ = some (.int .i64 s.lo.a) ∧ w'.cell? ⟨x0, 7, none⟩ = some (.int .i64 s.hi.a) ∧ w'.cell? ⟨y, 0, none⟩ = some (.int .i64 V.a))) (by kernel_rfl) (⟨t4, t7, y0⟩) (fun hHeld => ?_)
              refine kT 0 ?_
              go_frame
              refine kT 1 ?_
              go_frame
              refine kT 2 ?_
              go_frame
              refine kT 3 ?_
              go_frame
              refine wpAnyH_ready (rs := [4]) (by kernel_rfl) (by simp) ?_
              refine AllReadyH.cons (o := { dst := some 144, op := Op.call { callee := Callee.value (Operand.func 54), args := #[Operand.tmp 143, Operand.const (Value.int IntKind.i64 0), Operand.const (Value.int IntKind.i64 100000)], argTypes := #[3, 3, 3] }, type := 4, pos := "l06_manifest.go:93", after := #[{ on := 3, ground := Ground.data }], guard := none }) rfl (fun K hK => ?_) AllReadyH.nil
              go_simp
              refine (inL_b _ _ _ true HQ.out _).mono ?_
              rintro e6 w6 ⟨rfl, rfl⟩
              go_wp2_with fail
              refine hK.out _ _ (⟨t4, t7, y0⟩) (fun hHeld => ?_)
              clear hK K
              try simp only [Act.put, List.setIfInBounds_toArray, List.set_cons_zero, List.set_cons_succ]
              refine kT 5 ?_
              go_frame
              refine kT 6 ?_
              go_frame
              refine kT 7 ?_
              go_frame
              refine kT 8 ?_
              go_frame
              refine kT 9 ?_
              go_frame
              refine kT 10 ?_
              go_frame
              refine kT 11 ?_
              go_frame
              refine kT 12 ?_
              go_frame
              refine kT 13 ?_
              go_frame
              refine kT 14 ?_
              go_frame
              refine kT 15 ?_
              go_frame
              refine wpAnyH_done (by kernel_rfl) ?_ _
              refine NoPanic.normal ?_
              clear hHeld
              go_wp2
              exact ⟨⟨0 + 1, by omega, rfl, HL2, Lib.hid (TY.out.below (Below.refl (y + 1) _).drew (by omega)), Lib.hid (CA.out.below (Below.refl (x0 + 1) _).drew (by omega)), hb.drew⟩, by simp [intOf]⟩
            · rw [show ((1 : Nat) : Int) = 1 from rfl] at hi
              subst hi
              cases hq : inB s.lo.b 0 100000
              · have HQ := Lib.hid hq
                have HN := Lib.hid (show ¬ StP s from fun h => by
                  have := h.2.2.2.1.1 1 (by omega)
                  have e : s.lo.at (1 : Nat) = s.lo.b := rfl
                  rw [e, ← inB_iff, hq] at this
                  cases this)
                clear hq
                go_wp2_with fail
                refine wp_region_noPanic ?_
                refine wp_region_held_drew (S := (fun w' => w'.cell? ⟨x0, 5, none⟩ = some (.int .i64 s.lo.b) ∧ w'.cell? ⟨x0, 8, none⟩ = some (.int .i64 s.hi.b) ∧ w'.cell? ⟨y, 1, none⟩ = some (.int .i64 V.b))) (by kernel_rfl) (⟨t5, t8, y1⟩) (fun hHeld => ?_)
                refine kT 0 ?_
                go_frame
                refine kT 1 ?_
                go_frame
                refine kT 2 ?_
                go_frame
                refine kT 3 ?_
                go_frame
                refine wpAnyH_ready (rs := [4]) (by kernel_rfl) (by simp) ?_
                refine AllReadyH.cons (o := { dst := some 144, op := Op.call { callee := Callee.value (Operand.func 54), args := #[Operand.tmp 143, Operand.const (Value.int IntKind.i64 0), Operand.const (Value.int IntKind.i64 100000)], argTypes := #[3, 3, 3] }, type := 4, pos := "l06_manifest.go:93", after := #[{ on := 3, ground := Ground.data }], guard := none }) rfl (fun K hK => ?_) AllReadyH.nil
                go_simp
                refine (inL_b _ _ _ false HQ.out _).mono ?_
                rintro e6 w6 ⟨rfl, rfl⟩
                go_wp2_with fail
                refine hK.out _ _ (⟨t5, t8, y1⟩) (fun hHeld => ?_)
                clear hK K
                try simp only [Act.put, List.setIfInBounds_toArray, List.set_cons_zero, List.set_cons_succ]
                refine kT 5 ?_
                go_frame
                refine kT 6 ?_
                go_frame
                refine kS 7 ?_
                go_frame
                refine kS 8 ?_
                go_frame
                refine kS 9 ?_
                go_frame
                refine kS 10 ?_
                go_frame
                refine kS 11 ?_
                go_frame
                refine kS 12 ?_
                go_frame
                refine kS 13 ?_
                go_frame
                refine kS 14 ?_
                go_frame
                refine kT 15 ?_
                go_frame
                refine wpAnyH_done (by kernel_rfl) ?_ _
                refine NoPanic.normal ?_
                clear hHeld
                go_wp2
                go_ret
                exact IsBB.no HN.out (by rw [Hx0.out]; exact hb.drew)
              have HQ := Lib.hid hq; clear hq
              by_cases hv : s.hi.b = V.b
              rotate_left
              · have HN := Lib.hid (show ¬ StP s from fun h => by
                  have := h.2.2.2.1.2.2
                  rw [HV.out] at this
                  exact hv (by rw [← this]))
                have dn : (s.hi.b != V.b) = true := by simpa using hv
                have dn2 : (s.hi.b == V.b) = false := by simpa using hv
                clear hv
                go_wp2_with fail
                refine wp_region_noPanic ?_
                refine wp_region_held_drew (S := (fun w' => w'.cell? ⟨x0, 5, none⟩ = some (.int .i64 s.lo.b) ∧ w'.cell? ⟨x0, 8, none⟩ = some (.int .i64 s.hi.b) ∧ w'.cell? ⟨y, 1, none⟩ = some (.int .i64 V.b))) (by kernel_rfl) (⟨t5, t8, y1⟩) (fun hHeld => ?_)
                refine kT 0 ?_
                go_frame
                refine kT 1 ?_
                go_frame
                refine kT 2 ?_
                go_frame
                refine kT 3 ?_
                go_frame
                refine wpAnyH_ready (rs := [4]) (by kernel_rfl) (by simp) ?_
                refine AllReadyH.cons (o := { dst := some 144, op := Op.call { callee := Callee.value (Operand.func 54), args := #[Operand.tmp 143, Operand.const (Value.int IntKind.i64 0), Operand.const (Value.int IntKind.i64 100000)], argTypes := #[3, 3, 3] }, type := 4, pos := "l06_manifest.go:93", after := #[{ on := 3, ground := Ground.data }], guard := none }) rfl (fun K hK => ?_) AllReadyH.nil
                go_simp
                refine (inL_b _ _ _ true HQ.out _).mono ?_
                rintro e6 w6 ⟨rfl, rfl⟩
                go_wp2_with fail
                refine hK.out _ _ (⟨t5, t8, y1⟩) (fun hHeld => ?_)
                clear hK K
                try simp only [Act.put, List.setIfInBounds_toArray, List.set_cons_zero, List.set_cons_succ]
                refine kT 5 ?_
                go_frame
                refine kT 6 ?_
                go_frame
                refine kT 7 ?_
                go_frame
                refine kT 8 ?_
                go_frame
                refine kT 9 ?_
                go_frame
                refine kT 10 ?_
                go_frame
                refine kT 11 ?_
                go_frame
                refine kT 12 ?_
                go_frame
                refine kT 13 ?_
                go_frame
                refine kT 14 ?_
                go_frame
                refine kT 15 ?_
                go_frame
                refine wpAnyH_done (by kernel_rfl) ?_ _
                refine NoPanic.normal ?_
                clear hHeld
                go_wp2
                go_ret
                exact IsBB.no HN.out (by rw [Hx0.out]; exact hb.drew)
              have HL2 := Lib.hid (show ∀ i, i < 1 + 1 → (0 ≤ s.lo.at (i : Nat) ∧ s.lo.at (i : Nat) ≤ 100000) ∧ s.hi.at (i : Nat) = V.at (i : Nat) from fun i hi => by
                by_cases e : i = 1
                · subst e
                  exact ⟨inB_iff.1 HQ.out, hv⟩
                · exact HL.out i (by omega))
              have dn : (s.hi.b != V.b) = false := by simpa using hv
              have dn2 : (s.hi.b == V.b) = true := by simpa using hv
              clear hv
              go_wp2_with fail
              refine wp_region_noPanic ?_
              refine wp_region_held_drew (S := (fun w' => w'.cell? ⟨x0, 5, none⟩ = some (.int .i64 s.lo.b) ∧ w'.cell? ⟨x0, 8, none⟩ = some (.int .i64 s.hi.b) ∧ w'.cell? ⟨y, 1, none⟩ = some (.int .i64 V.b))) (by kernel_rfl) (⟨t5, t8, y1⟩) (fun hHeld => ?_)
              refine kT 0 ?_
              go_frame
              refine kT 1 ?_
              go_frame
              refine kT 2 ?_
              go_frame
              refine kT 3 ?_
              go_frame
              refine wpAnyH_ready (rs := [4]) (by kernel_rfl) (by simp) ?_
              refine AllReadyH.cons (o := { dst := some 144, op := Op.call { callee := Callee.value (Operand.func 54), args := #[Operand.tmp 143, Operand.const (Value.int IntKind.i64 0), Operand.const (Value.int IntKind.i64 100000)], argTypes := #[3, 3, 3] }, type := 4, pos := "l06_manifest.go:93", after := #[{ on := 3, ground := Ground.data }], guard := none }) rfl (fun K hK => ?_) AllReadyH.nil
              go_simp
              refine (inL_b _ _ _ true HQ.out _).mono ?_
              rintro e6 w6 ⟨rfl, rfl⟩
              go_wp2_with fail
              refine hK.out _ _ (⟨t5, t8, y1⟩) (fun hHeld => ?_)
              clear hK K
              try simp only [Act.put, List.setIfInBounds_toArray, List.set_cons_zero, List.set_cons_succ]
              refine kT 5 ?_
              go_frame
              refine kT 6 ?_
              go_frame
              refine kT 7 ?_
              go_frame
              refine kT 8 ?_
              go_frame
              refine kT 9 ?_
              go_frame
              refine kT 10 ?_
              go_frame
              refine kT 11 ?_
              go_frame
              refine kT 12 ?_
              go_frame
              refine kT 13 ?_
              go_frame
              refine kT 14 ?_
              go_frame
              refine kT 15 ?_
              go_frame
              refine wpAnyH_done (by kernel_rfl) ?_ _
              refine NoPanic.normal ?_
              clear hHeld
              go_wp2
              exact ⟨⟨1 + 1, by omega, rfl, HL2, Lib.hid (TY.out.below (Below.refl (y + 1) _).drew (by omega)), Lib.hid (CA.out.below (Below.refl (x0 + 1) _).drew (by omega)), hb.drew⟩, by simp [intOf]⟩
            · rw [show ((2 : Nat) : Int) = 2 from rfl] at hi
              subst hi
              cases hq : inB s.lo.c 0 100000
              · have HQ := Lib.hid hq
                have HN := Lib.hid (show ¬ StP s from fun h => by
                  have := h.2.2.2.1.1 2 (by omega)
                  have e : s.lo.at (2 : Nat) = s.lo.c := rfl
                  rw [e, ← inB_iff, hq] at this
                  cases this)
                clear hq
                go_wp2_with fail
                refine wp_region_noPanic ?_
                refine wp_region_held_drew (S := (fun w' => w'.cell? ⟨x0, 6, none⟩ = some (.int .i64 s.lo.c) ∧ w'.cell? ⟨x0, 9, none⟩ = some (.int .i64 s.hi.c) ∧ w'.cell? ⟨y, 2, none⟩ = some (.int .i64 V.c))) (by kernel_rfl) (⟨t6, t9, y2⟩) (fun hHeld => ?_)
                refine kT 0 ?_
                go_frame
                refine kT 1 ?_
                go_frame
                refine kT 2 ?_
                go_frame
                refine kT 3 ?_
                go_frame
                refine wpAnyH_ready (rs := [4]) (by kernel_rfl) (by simp) ?_
                refine AllReadyH.cons (o := { dst := some 144, op := Op.call { callee := Callee.value (Operand.func 54), args := #[Operand.tmp 143, Operand.const (Value.int IntKind.i64 0), Operand.const (Value.int IntKind.i64 100000)], argTypes := #[3, 3, 3] }, type := 4, pos := "l06_manifest.go:93", after := #[{ on := 3, ground := Ground.data }], guard := none }) rfl (fun K hK => ?_) AllReadyH.nil
                go_simp
                refine (inL_b _ _ _ false HQ.out _).mono ?_
                rintro e6 w6 ⟨rfl, rfl⟩
                go_wp2_with fail
                refine hK.out _ _ (⟨t6, t9, y2⟩) (fun hHeld => ?_)
                clear hK K
                try simp only [Act.put, List.setIfInBounds_toArray, List.set_cons_zero, List.set_cons_succ]
                refine kT 5 ?_
                go_frame
                refine kT 6 ?_
                go_frame
                refine kS 7 ?_
                go_frame
                refine kS 8 ?_
                go_frame
                refine kS 9 ?_
                go_frame
                refine kS 10 ?_
                go_frame
                refine kS 11 ?_
                go_frame
                refine kS 12 ?_
                go_frame
                refine kS 13 ?_
                go_frame
                refine kS 14 ?_
                go_frame
                refine kT 15 ?_
                go_frame
                refine wpAnyH_done (by kernel_rfl) ?_ _
                refine NoPanic.normal ?_
                clear hHeld
                go_wp2
                go_ret
                exact IsBB.no HN.out (by rw [Hx0.out]; exact hb.drew)
              have HQ := Lib.hid hq; clear hq
              by_cases hv : s.hi.c = V.c
              rotate_left
              · have HN := Lib.hid (show ¬ StP s from fun h => by
                  have := h.2.2.2.1.2.2
                  rw [HV.out] at this
                  exact hv (by rw [← this]))
                have dn : (s.hi.c != V.c) = true := by simpa using hv
                have dn2 : (s.hi.c == V.c) = false := by simpa using hv
                clear hv
                go_wp2_with fail
                refine wp_region_noPanic ?_
                refine wp_region_held_drew (S := (fun w' => w'.cell? ⟨x0, 6, none⟩ = some (.int .i64 s.lo.c) ∧ w'.cell? ⟨x0, 9, none⟩ = some (.int .i64 s.hi.c) ∧ w'.cell? ⟨y, 2, none⟩ = some (.int .i64 V.c))) (by kernel_rfl) (⟨t6, t9, y2⟩) (fun hHeld => ?_)
                refine kT 0 ?_
                go_frame
                refine kT 1 ?_
                go_frame
                refine kT 2 ?_
                go_frame
                refine kT 3 ?_
                go_frame
                refine wpAnyH_ready (rs := [4]) (by kernel_rfl) (by simp) ?_
                refine AllReadyH.cons (o := { dst := some 144, op := Op.call { callee := Callee.value (Operand.func 54), args := #[Operand.tmp 143, Operand.const (Value.int IntKind.i64 0), Operand.const (Value.int IntKind.i64 100000)], argTypes := #[3, 3, 3] }, type := 4, pos := "l06_manifest.go:93", after := #[{ on := 3, ground := Ground.data }], guard := none }) rfl (fun K hK => ?_) AllReadyH.nil
                go_simp
                refine (inL_b _ _ _ true HQ.out _).mono ?_
                rintro e6 w6 ⟨rfl, rfl⟩
                go_wp2_with fail
                refine hK.out _ _ (⟨t6, t9, y2⟩) (fun hHeld => ?_)
                clear hK K
                try simp only [Act.put, List.setIfInBounds_toArray, List.set_cons_zero, List.set_cons_succ]
                refine kT 5 ?_
                go_frame
                refine kT 6 ?_
                go_frame
                refine kT 7 ?_
                go_frame
                refine kT 8 ?_
                go_frame
                refine kT 9 ?_
                go_frame
                refine kT 10 ?_
                go_frame
                refine kT 11 ?_
                go_frame
                refine kT 12 ?_
                go_frame
                refine kT 13 ?_
                go_frame
                refine kT 14 ?_
                go_frame
                refine kT 15 ?_
                go_frame
                refine wpAnyH_done (by kernel_rfl) ?_ _
                refine NoPanic.normal ?_
                clear hHeld
                go_wp2
                go_ret
                exact IsBB.no HN.out (by rw [Hx0.out]; exact hb.drew)
              have HL2 := Lib.hid (show ∀ i, i < 2 + 1 → (0 ≤ s.lo.at (i : Nat) ∧ s.lo.at (i : Nat) ≤ 100000) ∧ s.hi.at (i : Nat) = V.at (i : Nat) from fun i hi => by
                by_cases e : i = 2
                · subst e
                  exact ⟨inB_iff.1 HQ.out, hv⟩
                · exact HL.out i (by omega))
              have dn : (s.hi.c != V.c) = false := by simpa using hv
              have dn2 : (s.hi.c == V.c) = true := by simpa using hv
              clear hv
              go_wp2_with fail
              refine wp_region_noPanic ?_
              refine wp_region_held_drew (S := (fun w' => w'.cell? ⟨x0, 6, none⟩ = some (.int .i64 s.lo.c) ∧ w'.cell? ⟨x0, 9, none⟩ = some (.int .i64 s.hi.c) ∧ w'.cell? ⟨y, 2, none⟩ = some (.int .i64 V.c))) (by kernel_rfl) (⟨t6, t9, y2⟩) (fun hHeld => ?_)
              refine kT 0 ?_
              go_frame
              refine kT 1 ?_
              go_frame
              refine kT 2 ?_
              go_frame
              refine kT 3 ?_
              go_frame
              refine wpAnyH_ready (rs := [4]) (by kernel_rfl) (by simp) ?_
              refine AllReadyH.cons (o := { dst := some 144, op := Op.call { callee := Callee.value (Operand.func 54), args := #[Operand.tmp 143, Operand.const (Value.int IntKind.i64 0), Operand.const (Value.int IntKind.i64 100000)], argTypes := #[3, 3, 3] }, type := 4, pos := "l06_manifest.go:93", after := #[{ on := 3, ground := Ground.data }], guard := none }) rfl (fun K hK => ?_) AllReadyH.nil
              go_simp
              refine (inL_b _ _ _ true HQ.out _).mono ?_
              rintro e6 w6 ⟨rfl, rfl⟩
              go_wp2_with fail
              refine hK.out _ _ (⟨t6, t9, y2⟩) (fun hHeld => ?_)
              clear hK K
              try simp only [Act.put, List.setIfInBounds_toArray, List.set_cons_zero, List.set_cons_succ]
              refine kT 5 ?_
              go_frame
              refine kT 6 ?_
              go_frame
              refine kT 7 ?_
              go_frame
              refine kT 8 ?_
              go_frame
              refine kT 9 ?_
              go_frame
              refine kT 10 ?_
              go_frame
              refine kT 11 ?_
              go_frame
              refine kT 12 ?_
              go_frame
              refine kT 13 ?_
              go_frame
              refine kT 14 ?_
              go_frame
              refine kT 15 ?_
              go_frame
              refine wpAnyH_done (by kernel_rfl) ?_ _
              refine NoPanic.normal ?_
              clear hHeld
              go_wp2
              exact ⟨⟨2 + 1, by omega, rfl, HL2, Lib.hid (TY.out.below (Below.refl (y + 1) _).drew (by omega)), Lib.hid (CA.out.below (Below.refl (x0 + 1) _).drew (by omega)), hb.drew⟩, by simp [intOf]⟩
          obtain rfl : k = 3 := by omega
          rw [show ((3 : Nat) : Int) = 3 from rfl] at hi
          subst hi
          have HY := Lib.hid (show StP s from ⟨HQ0.out, HFE.out, HSS.out, ⟨fun i hi => (HL.out i hi).1, HSD.out, by
            rw [HV.out]
            have h0 := (HL.out 0 (by omega)).2
            have h1 := (HL.out 1 (by omega)).2
            have h2 := (HL.out 2 (by omega)).2
            obtain ⟨v0, v1, v2⟩ := V
            have e : s.hi = ⟨s.hi.a, s.hi.b, s.hi.c⟩ := rfl
            rw [e]
            have g0 : s.hi.a = v0 := h0
            have g1 : s.hi.b = v1 := h1
            have g2 : s.hi.c = v2 := h2
            rw [g0, g1, g2]⟩, HRS.out, HKN.out⟩)
          go_wp2
          go_ret
          exact IsBB.yes HY.out (by rw [Hx0.out]; exact hb)

end Go.Proofs.YtpfanmcjlfdaiaaGreatDoorR
