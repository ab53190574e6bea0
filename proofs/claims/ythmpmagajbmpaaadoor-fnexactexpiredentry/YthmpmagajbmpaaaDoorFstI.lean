/-
  Contracts of the program's firstOf and rolledUp. Conditions: lengths; bounds of what is rolled up.
-/
import Derived.Test.YthmpmagajbmpaaaDoorExp
namespace Go.Proofs.YthmpmagajbmpaaaDoor
open Go.ChangeShapes Go.WideShapes Go.ChangeAt Go.RowKit Go.Deep Go.Joins Go.Maps
set_option linter.unusedVariables false
set_option linter.unusedSimpArgs false


theorem firstOf1_any (e : GEnt) (t : Int) (y : Nat) (w : World) (h : w.cell? ⟨y, 0, none⟩ = some (.int .i64 t)) (hy : y < w.heap.size) :
    Calls Tryd.prog 82 #[.agg #[.int .i64 e.tier, .int .i64 e.beg, .int .i64 e.fin, .string e.key], .pointer (some ⟨y, 0, none⟩)] w fun r w' => r = .returned (.bool (e.tier == t)) ∧ Below w.heap.size w w' := by
  have h2 : (w.alloc (.cells #[.int .i64 e.tier, .int .i64 e.beg, .int .i64 e.fin, .string e.key] 44)).cell? ⟨y, 0, none⟩ = some (.int .i64 t) := (Below.cell (bal (Below.refl w.heap.size w) _) (p := ⟨y, 0, none⟩) hy).trans h
  have b0 : Below w.heap.size w (w.alloc (.cells #[.int .i64 e.tier, .int .i64 e.beg, .int .i64 e.fin, .string e.key] 44)) := bal (Below.refl _ _) _
  go_enter Tryd.func82, Tryd.ntmps82
  go_wp2
  go_ret
  exact ⟨rfl, b0⟩

set_option maxRecDepth 100000 in
set_option maxHeartbeats 1000000 in
theorem firstThatE_any (A : Option Addr) (c : Nat) (es : List GEnt) (t : Int) (y B : Nat) (w : World) (h : EntsAt w B A es) (hB : B ≤ w.heap.size) (hl : es.length ≤ 1048576) (ht : w.cell? ⟨y, 0, none⟩ = some (.int .i64 t)) (hy : y < w.heap.size) :
    Calls Tryd.prog 81 #[.slice A es.length c, .func (.func 82) #[] #[.pointer (some ⟨y, 0, none⟩)]] w fun r w' => r = .returned (.tuple #[.agg #[.int .i64 ((firstE es t).getD zEnt).tier, .int .i64 ((firstE es t).getD zEnt).beg, .int .i64 ((firstE es t).getD zEnt).fin, .string ((firstE es t).getD zEnt).key], .bool (firstE es t).isSome]) ∧ Below w.heap.size w w' := by
  have H := Lib.hid h; clear h
  have HY : Hid (∀ w', Below w.heap.size w w' → w'.cell? ⟨y, 0, none⟩ = some (.int .i64 t) ∧ y < w'.heap.size) := Lib.hid fun w' hb => ⟨(hb.cell (p := ⟨y, 0, none⟩) hy).trans ht, Nat.lt_of_lt_of_le hy hb.size⟩
  clear ht hy
  go_enter Tryd.func81, Tryd.ntmps81
  go_wp2_with fail
  have CA : Hid (Cells (w.alloc (.cells #[.int .i64 0, .int .i64 0, .int .i64 0, .string ⟨#[]⟩] 44)) w.heap.size 0 [.int .i64 0, .int .i64 0, .int .i64 0, .string ⟨#[]⟩]) := Lib.hid (Cells.new w _ _)
  have FA : Hid (Free (w.alloc (.cells #[.int .i64 0, .int .i64 0, .int .i64 0, .string ⟨#[]⟩] 44)) (some ⟨w.heap.size, 0, none⟩)) := Lib.hid (free_alloc w _ _ 0)
  have b0 : Below w.heap.size w (w.alloc (.cells #[.int .i64 0, .int .i64 0, .int .i64 0, .string ⟨#[]⟩] 44)) := bal (Below.refl _ _) _
  have s0 : w.heap.size < (w.alloc (.cells #[.int .i64 0, .int .i64 0, .int .i64 0, .string ⟨#[]⟩] 44)).heap.size := by simp
  generalize w.alloc (.cells #[.int .i64 0, .int .i64 0, .int .i64 0, .string ⟨#[]⟩] 44) = W at *
  generalize hx0 : w.heap.size = x0 at *
  have Hx0 := Lib.hid hx0; clear hx0
  go_loopw [11] (fun i wr => ∃ k : Nat, k ≤ es.length ∧ i = .int .i64 k ∧ Hid (NoT es t k) ∧ Hid (Cells wr x0 0 [.int .i64 0, .int .i64 0, .int .i64 0, .string ⟨#[]⟩]) ∧ Hid (Free wr (some ⟨x0, 0, none⟩)) ∧ Hid (x0 < wr.heap.size) ∧ Below x0 w wr) (fun i _ => es.length - (intOf i).toNat)
  case atStart => exact ⟨0, by omega, rfl, Lib.hid (NoT.zero _ _), CA, FA, Lib.hid s0, b0⟩
  case round =>
    clear CA FA s0 b0
    obtain ⟨k, hk, rfl, HN, CW, FW, HX, hb⟩ := hrel
    by_cases hlt : k < es.length
    · obtain ⟨b1, o1, rfl, hb1, p0, p1, p2, p3⟩ := EntsAt.one (Sl.below H.out hb (by have := Hx0.out; omega)) hlt
      have i1 : (0 : Int) ≤ (k : Int) := by omega
      have i2 : (k : Int) < (es.length : Int) := by omega
      have HV1 := Lib.hid (fun h1 => firstE_at HN.out hlt h1)
      have HN1 := Lib.hid (fun (h1 : (es[k].tier == t) = false) => HN.out.succ (fun _ => h1))
      generalize es[k] = e at *
      go_wp2_with fail
      have q := Cells.new wr [.int .i64 e.tier, .int .i64 e.beg, .int .i64 e.fin, .string e.key] 44
      have bA : Below x0 w (wr.alloc (.cells #[.int .i64 e.tier, .int .i64 e.beg, .int .i64 e.fin, .string e.key] 44)) := hb.alloc (Nat.le_of_lt HX.out) _
      have bN : Below wr.heap.size wr (wr.alloc (.cells #[.int .i64 e.tier, .int .i64 e.beg, .int .i64 e.fin, .string e.key] 44)) := bal (Below.refl _ _) _
      have CWA := Lib.hid (CW.out.below bN HX.out)
      have FWA := Lib.hid (FW.out.below bN (fun b e => by have := HX.out; simp [blk] at e; omega))
      have hxz : x0 < wr.heap.size := HX.out
      have sA : wr.heap.size < (wr.alloc (.cells #[.int .i64 e.tier, .int .i64 e.beg, .int .i64 e.fin, .string e.key] 44)).heap.size := by simp
      generalize wr.alloc (.cells #[.int .i64 e.tier, .int .i64 e.beg, .int .i64 e.fin, .string e.key] 44) = WA at *
      obtain ⟨z, hz0⟩ : ∃ z, z = wr.heap.size := ⟨_, rfl⟩
      rw [← hz0] at q sA hxz ⊢
      clear p0 p1 p2 p3 CW FW HX hb bN hb1 hz0 HN i1 i2
      refine (firstOf1_any e t y WA (HY.out _ bA).1 (HY.out _ bA).2).mono ?_
      rintro r w3 ⟨rfl, hb3⟩
      have b3 : Below x0 w w3 := bA.trans (hb3.mono (by omega))
      have C3 := Lib.hid (CWA.out.below hb3 (by omega))
      have F3 := Lib.hid (FWA.out.below hb3 (fun b e => by simp [blk] at e; omega))
      have s3 : x0 < w3.heap.size := by have := hb3.size; omega
      obtain ⟨q0, q1, q2, q3⟩ : w3.cell? ⟨z, 0, none⟩ = some (.int .i64 e.tier) ∧ w3.cell? ⟨z, 1, none⟩ = some (.int .i64 e.beg) ∧ w3.cell? ⟨z, 2, none⟩ = some (.int .i64 e.fin) ∧ w3.cell? ⟨z, 3, none⟩ = some (.string e.key) := by
        have k := q.below hb3 sA
        exact ⟨k 0 _ rfl, k 1 _ rfl, k 2 _ rfl, k 3 _ rfl⟩
      clear q hb3 CWA FWA bA sA
      cases ht : (e.tier == t)
      · have N1 := HN1.out ht
        have HN2 := Lib.hid N1; clear N1 ht HV1 HN1
        go_wp2_with fail
        go_roundw
        case rel => exact ⟨k + 1, by omega, by simp, HN2, C3, F3, Lib.hid s3, b3⟩
        case measure => simp [intOf]; omega
      · have E := HV1.out ht
        clear HV1 HN1
        obtain ⟨z0, z1, z2, z3⟩ : w3.cell? ⟨x0, 0, none⟩ = some (.int .i64 0) ∧ w3.cell? ⟨x0, 1, none⟩ = some (.int .i64 0) ∧ w3.cell? ⟨x0, 2, none⟩ = some (.int .i64 0) ∧ w3.cell? ⟨x0, 3, none⟩ = some (.string ⟨#[]⟩) := ⟨C3.out 0 _ rfl, C3.out 1 _ rfl, C3.out 2 _ rfl, C3.out 3 _ rfl⟩
        have f0 : ∀ i, w3.frozen? ⟨x0, i, none⟩ = false := F3.out x0 rfl
        have BF : Hid (∀ a b c d, Below w.heap.size w ((((w3.setCell ⟨x0, 0, none⟩ a).setCell ⟨x0, 1, none⟩ b).setCell ⟨x0, 2, none⟩ c).setCell ⟨x0, 3, none⟩ d)) := Lib.hid fun a b c d => by rw [Hx0.out]; exact (((b3.setCell (Nat.le_refl _) a).setCell (Nat.le_refl _) b).setCell (Nat.le_refl _) c).setCell (Nat.le_refl _) d
        go_wp2
        refine bodyPost_ret (v := .tuple #[.agg #[.int .i64 e.tier, .int .i64 e.beg, .int .i64 e.fin, .string e.key], .bool true]) (by simp [results, Tryd.results81, go_sem, *]) rfl ⟨by rw [E]; rfl, BF.out _ _ _ _⟩
    · have E := firstE_no HN.out (by omega)
      obtain ⟨z0, z1, z2, z3⟩ : wr.cell? ⟨x0, 0, none⟩ = some (.int .i64 0) ∧ wr.cell? ⟨x0, 1, none⟩ = some (.int .i64 0) ∧ wr.cell? ⟨x0, 2, none⟩ = some (.int .i64 0) ∧ wr.cell? ⟨x0, 3, none⟩ = some (.string ⟨#[]⟩) := ⟨CW.out 0 _ rfl, CW.out 1 _ rfl, CW.out 2 _ rfl, CW.out 3 _ rfl⟩
      have f0 : ∀ i, wr.frozen? ⟨x0, i, none⟩ = false := FW.out x0 rfl
      have hx := HX.out
      have BF : Hid (∀ a b c d o, Below w.heap.size w (((((wr.setCell ⟨x0, 0, none⟩ a).setCell ⟨x0, 1, none⟩ b).setCell ⟨x0, 2, none⟩ c).setCell ⟨x0, 3, none⟩ d).alloc o)) := Lib.hid fun a b c d o => by rw [Hx0.out]; exact ((((hb.setCell (Nat.le_refl _) a).setCell (Nat.le_refl _) b).setCell (Nat.le_refl _) c).setCell (Nat.le_refl _) d).alloc (by simp only [size_setCell]; omega) _
      go_wp2
      refine bodyPost_ret (v := .tuple #[.agg #[.int .i64 0, .int .i64 0, .int .i64 0, .string ⟨#[]⟩], .bool false]) (by simp [results, Tryd.results81, go_sem, *]) rfl ⟨by rw [E]; rfl, BF.out _ _ _ _ _⟩

set_option maxRecDepth 100000 in
set_option maxHeartbeats 1000000 in
theorem firstOf_any (A : Option Addr) (c : Nat) (A2 : Option Addr) (c2 : Nat) (s : GSt) (t : Int) (B : Nat) (w : World) (h : StAt w B A A2 s) (hB : B ≤ w.heap.size) (hl : s.ents.length ≤ 1048576) :
    Calls Tryd.prog 53 #[.agg #[.int .i64 s.sq, .int .i64 s.fe, .slice A s.ents.length c, .slice A2 s.tmbs.length c2, .int .i64 s.lo.a, .int .i64 s.lo.b, .int .i64 s.lo.c, .int .i64 s.hi.a, .int .i64 s.hi.b, .int .i64 s.hi.c], .int .i64 t] w fun r w' => r = .returned (.tuple #[.agg #[.int .i64 ((firstE s.ents t).getD zEnt).tier, .int .i64 ((firstE s.ents t).getD zEnt).beg, .int .i64 ((firstE s.ents t).getD zEnt).fin, .string ((firstE s.ents t).getD zEnt).key], .bool (firstE s.ents t).isSome]) ∧ Below w.heap.size w w' := by
  have H := Lib.hid h; clear h
  go_enter Tryd.func53, Tryd.ntmps53
  go_wp2_with fail
  obtain ⟨V, hV⟩ : ∃ V, V = (((w.alloc (.cells #[.int .i64 s.sq, .int .i64 s.fe, .slice A s.ents.length c, .slice A2 s.tmbs.length c2, .int .i64 s.lo.a, .int .i64 s.lo.b, .int .i64 s.lo.c, .int .i64 s.hi.a, .int .i64 s.hi.b, .int .i64 s.hi.c] 33)).alloc (.cells #[.int .i64 t] 3)).alloc (.cells #[.int .i64 0, .int .i64 0, .int .i64 0, .string ⟨#[]⟩] 44)) := ⟨_, rfl⟩
  have bV : Below w.heap.size w V := by rw [hV]; exact bal (bal (bal (Below.refl _ _) _) _) _
  have hT : V.cell? ⟨w.heap.size + 1, 0, none⟩ = some (.int .i64 t) := by
    rw [hV]
    have k := ((Cells.new (w.alloc (.cells #[.int .i64 s.sq, .int .i64 s.fe, .slice A s.ents.length c, .slice A2 s.tmbs.length c2, .int .i64 s.lo.a, .int .i64 s.lo.b, .int .i64 s.lo.c, .int .i64 s.hi.a, .int .i64 s.hi.b, .int .i64 s.hi.c] 33)) [.int .i64 t] 3).below (bal (Below.refl _ _) (.cells #[.int .i64 0, .int .i64 0, .int .i64 0, .string ⟨#[]⟩] 44)) (by simp)) 0 _ rfl
    simpa using k
  have hC : Cells V (w.heap.size + 1 + 1) 0 [.int .i64 0, .int .i64 0, .int .i64 0, .string ⟨#[]⟩] := by
    rw [hV]
    have k := Cells.new ((w.alloc (.cells #[.int .i64 s.sq, .int .i64 s.fe, .slice A s.ents.length c, .slice A2 s.tmbs.length c2, .int .i64 s.lo.a, .int .i64 s.lo.b, .int .i64 s.lo.c, .int .i64 s.hi.a, .int .i64 s.hi.b, .int .i64 s.hi.c] 33)).alloc (.cells #[.int .i64 t] 3)) [.int .i64 0, .int .i64 0, .int .i64 0, .string ⟨#[]⟩] 44
    simpa using k
  have hF : Free V (some ⟨w.heap.size + 1 + 1, 0, none⟩) := by
    rw [hV]
    have k := free_alloc ((w.alloc (.cells #[.int .i64 s.sq, .int .i64 s.fe, .slice A s.ents.length c, .slice A2 s.tmbs.length c2, .int .i64 s.lo.a, .int .i64 s.lo.b, .int .i64 s.lo.c, .int .i64 s.hi.a, .int .i64 s.hi.b, .int .i64 s.hi.c] 33)).alloc (.cells #[.int .i64 t] 3)) #[.int .i64 0, .int .i64 0, .int .i64 0, .string ⟨#[]⟩] 44 0
    simpa using k
  have sV : w.heap.size + 1 + 1 < V.heap.size := by rw [hV]; simp
  rw [← hV]
  clear hV
  refine (firstThatE_any A c s.ents t (w.heap.size + 1) B V (Sl.below H.out.1 bV hB) (by omega) hl hT (by omega)).mono ?_
  rintro r w3 ⟨rfl, hb3⟩
  have b3 : Below w.heap.size w w3 := bV.trans (hb3.mono (by omega))
  have C3 := hC.below hb3 sV
  have F3 : ∀ i, w3.frozen? ⟨w.heap.size + 1 + 1, i, none⟩ = false := (hF.below hb3 (fun b e => by simp [blk] at e; omega)) _ rfl
  generalize hfb : (firstE s.ents t).isSome = fb
  generalize hfe : (firstE s.ents t).getD zEnt = fe
  have Hfb := Lib.hid hfb; have Hfe := Lib.hid hfe; clear hfb hfe
  obtain ⟨z0, z1, z2, z3⟩ : w3.cell? ⟨w.heap.size + 1 + 1, 0, none⟩ = some (.int .i64 0) ∧ w3.cell? ⟨w.heap.size + 1 + 1, 1, none⟩ = some (.int .i64 0) ∧ w3.cell? ⟨w.heap.size + 1 + 1, 2, none⟩ = some (.int .i64 0) ∧ w3.cell? ⟨w.heap.size + 1 + 1, 3, none⟩ = some (.string ⟨#[]⟩) := ⟨C3 0 _ rfl, C3 1 _ rfl, C3 2 _ rfl, C3 3 _ rfl⟩
  have BF : Hid (∀ a b c d, Below w.heap.size w ((((w3.setCell ⟨w.heap.size + 1 + 1, 0, none⟩ a).setCell ⟨w.heap.size + 1 + 1, 1, none⟩ b).setCell ⟨w.heap.size + 1 + 1, 2, none⟩ c).setCell ⟨w.heap.size + 1 + 1, 3, none⟩ d)) := Lib.hid fun a b c d => (((b3.setCell (by show w.heap.size ≤ w.heap.size + 1 + 1; omega) a).setCell (by show w.heap.size ≤ w.heap.size + 1 + 1; omega) b).setCell (by show w.heap.size ≤ w.heap.size + 1 + 1; omega) c).setCell (by show w.heap.size ≤ w.heap.size + 1 + 1; omega) d
  clear C3 hC hF hT bV sV hb3 b3 H
  go_wp2
  refine bodyPost_ret (v := .tuple #[.agg #[.int .i64 fe.tier, .int .i64 fe.beg, .int .i64 fe.fin, .string fe.key], .bool fb]) (by simp [results, Tryd.results53, go_sem, *]) rfl ⟨by rw [Hfb.out, Hfe.out], BF.out _ _ _ _⟩

set_option maxRecDepth 100000 in
theorem rolledUp_0 (A : Option Addr) (c : Nat) (A2 : Option Addr) (c2 : Nat) (s : GSt) (b f : Int) (ky : ByteArray) (w : World) :
    Calls Tryd.prog 54 #[.agg #[.int .i64 s.sq, .int .i64 s.fe, .slice A s.ents.length c, .slice A2 s.tmbs.length c2, .int .i64 s.lo.a, .int .i64 s.lo.b, .int .i64 s.lo.c, .int .i64 s.hi.a, .int .i64 s.hi.b, .int .i64 s.hi.c], .agg #[.int .i64 0, .int .i64 b, .int .i64 f, .string ky]] w fun r w' => r = .returned (.bool (upB s 0 ⟨0, b, f, ky⟩)) ∧ Below w.heap.size w w' := by
  have E : upB s 0 ⟨0, b, f, ky⟩ = decide (f ≤ s.hi.b) := by simp [upB, GTri.at]
  rw [E]
  clear E
  go_enter Tryd.func54, Tryd.ntmps54
  go_wp2_with fail
  have bV : Below w.heap.size w ((w.alloc (.cells #[.int .i64 s.sq, .int .i64 s.fe, .slice A s.ents.length c, .slice A2 s.tmbs.length c2, .int .i64 s.lo.a, .int .i64 s.lo.b, .int .i64 s.lo.c, .int .i64 s.hi.a, .int .i64 s.hi.b, .int .i64 s.hi.c] 33)).alloc (.cells #[.int .i64 0, .int .i64 b, .int .i64 f, .string ky] 44)) := bal (bal (Below.refl _ _) _) _
  go_quiet (fail)
  go_wp2
  go_ret
  exact ⟨rfl, bdrewB bV _⟩

set_option maxRecDepth 100000 in
theorem rolledUp_1 (A : Option Addr) (c : Nat) (A2 : Option Addr) (c2 : Nat) (s : GSt) (b f : Int) (ky : ByteArray) (w : World) :
    Calls Tryd.prog 54 #[.agg #[.int .i64 s.sq, .int .i64 s.fe, .slice A s.ents.length c, .slice A2 s.tmbs.length c2, .int .i64 s.lo.a, .int .i64 s.lo.b, .int .i64 s.lo.c, .int .i64 s.hi.a, .int .i64 s.hi.b, .int .i64 s.hi.c], .agg #[.int .i64 1, .int .i64 b, .int .i64 f, .string ky]] w fun r w' => r = .returned (.bool (upB s 1 ⟨1, b, f, ky⟩)) ∧ Below w.heap.size w w' := by
  have E : upB s 1 ⟨1, b, f, ky⟩ = decide (f ≤ s.hi.c) := by simp [upB, GTri.at]
  rw [E]
  clear E
  go_enter Tryd.func54, Tryd.ntmps54
  go_wp2_with fail
  have bV : Below w.heap.size w ((w.alloc (.cells #[.int .i64 s.sq, .int .i64 s.fe, .slice A s.ents.length c, .slice A2 s.tmbs.length c2, .int .i64 s.lo.a, .int .i64 s.lo.b, .int .i64 s.lo.c, .int .i64 s.hi.a, .int .i64 s.hi.b, .int .i64 s.hi.c] 33)).alloc (.cells #[.int .i64 1, .int .i64 b, .int .i64 f, .string ky] 44)) := bal (bal (Below.refl _ _) _) _
  go_quiet (fail)
  go_wp2
  go_ret
  exact ⟨rfl, bdrewB bV _⟩

set_option maxRecDepth 100000 in
theorem rolledUp_2 (A : Option Addr) (c : Nat) (A2 : Option Addr) (c2 : Nat) (s : GSt) (b f : Int) (ky : ByteArray) (w : World) :
    Calls Tryd.prog 54 #[.agg #[.int .i64 s.sq, .int .i64 s.fe, .slice A s.ents.length c, .slice A2 s.tmbs.length c2, .int .i64 s.lo.a, .int .i64 s.lo.b, .int .i64 s.lo.c, .int .i64 s.hi.a, .int .i64 s.hi.b, .int .i64 s.hi.c], .agg #[.int .i64 2, .int .i64 b, .int .i64 f, .string ky]] w fun r w' => r = .returned (.bool (upB s 2 ⟨2, b, f, ky⟩)) ∧ Below w.heap.size w w' := by
  have E : upB s 2 ⟨2, b, f, ky⟩ = true := by simp [upB, GTri.at]
  rw [E]
  clear E
  go_enter Tryd.func54, Tryd.ntmps54
  go_wp2_with fail
  have bV : Below w.heap.size w ((w.alloc (.cells #[.int .i64 s.sq, .int .i64 s.fe, .slice A s.ents.length c, .slice A2 s.tmbs.length c2, .int .i64 s.lo.a, .int .i64 s.lo.b, .int .i64 s.lo.c, .int .i64 s.hi.a, .int .i64 s.hi.b, .int .i64 s.hi.c] 33)).alloc (.cells #[.int .i64 2, .int .i64 b, .int .i64 f, .string ky] 44)) := bal (bal (Below.refl _ _) _) _
  go_quiet (fail)
  go_wp2
  go_ret
  exact ⟨rfl, bdrewB bV _⟩

end Go.Proofs.YthmpmagajbmpaaaDoor
