/-
  Contracts of the model's l05Read and ReadLease: just the text of a right lease is read. Conditions: a text's length.
-/
import Derived.Test.YtkpaocejpjhkpaaGreatDoorSpecRd
import Derived.Test.YtkpaocejpjhkpaaGreatDoorLseTxt
namespace Go.Proofs.YtkpaocejpjhkpaaGreatDoor
open Go.ChangeShapes Go.WideShapes Go.ChangeAt Go.RowKit Go.Deep Go.Joins
set_option linter.unusedVariables false
set_option linter.unusedSimpArgs false

/-- a text is that of a right aggregate -/
def LseRead (t : ByteArray) (a : GLse) : Prop := LseP a ∧ NumsOf t 44 a.nums

def NoLse (t : ByteArray) : Prop := ∀ a, ¬ LseRead t a

theorem lseP_small {a : GLse} (h : LseP a) : ∀ n ∈ a.nums, Small n := by
  intro n hn
  unfold LseP at h
  unfold Small
  simp [GLse.nums] at hn
  omega

theorem lseRead_one {t : ByteArray} {a b : GLse} (h : LseRead t a) (k : LseRead t b) : a = b := by
  have := nums_one comma_no h.2 k.2 (fun n hn => small_fitI (lseP_small h.1 n hn)) (fun n hn => small_fitI (lseP_small k.1 n hn))
  obtain ⟨a0, a1, a2⟩ := a
  obtain ⟨b0, b1, b2⟩ := b
  simp [GLse.nums] at this
  simp [this]

/-- what is read of an aggregate's text -/
def LseRd (t : ByteArray) (a : GLse) (b : Bool) : Prop := (b = true ∧ LseRead t a) ∨ (b = false ∧ a = zLse ∧ NoLse t)

theorem noLse_of {t : ByteArray} (h : ∀ ms, ms.length = 3 → (∀ m ∈ ms, Small m) → ¬ NumsOf t 44 ms) : NoLse t := fun a ha => h a.nums rfl (lseP_small ha.1) ha.2

theorem thr_list {ns : List Int} (h : ns.length = 3) : ∃ a : GLse, a.nums = ns := by
  match ns, h with
  | [a, b, c], _ => exact ⟨⟨a, b, c⟩, rfl⟩

theorem noLse_bad {t : ByteArray} {a : GLse} (h : NumsOf t 44 a.nums) (hf : ∀ n ∈ a.nums, FitI n) (hp : ¬ LseP a) : NoLse t := fun b hb => by
  have := nums_one comma_no h hb.2 hf (fun n hn => small_fitI (lseP_small hb.1 n hn))
  apply hp
  obtain ⟨a0, a1, a2⟩ := a
  obtain ⟨b0, b1, b2⟩ := b
  simp [GLse.nums] at this
  obtain ⟨rfl, rfl, rfl⟩ := this
  exact hb.1

theorem nums_cells3 {w : World} {B b o : Nat} {a : GLse} (h : Sl niV 1 w B (some ⟨b, o, none⟩) a.nums) : (w.cell? ⟨b, o, none⟩ = some (.int .i64 a.tk) ∧ w.cell? ⟨b, o + 1, none⟩ = some (.int .i64 a.ow) ∧ w.cell? ⟨b, o + 2, none⟩ = some (.int .i64 a.un)) ∧ b < B := by
  obtain ⟨b', o', e, hb, hc⟩ := h (by simp [GLse.nums])
  injection e with e
  injection e with e1 e2
  subst e1 e2
  exact ⟨⟨hc 0 (by simp [GLse.nums]) 0 _ rfl, hc 1 (by simp [GLse.nums]) 0 _ rfl, hc 2 (by simp [GLse.nums]) 0 _ rfl⟩, hb⟩

/-- an aggregate's variable, of zeros, in block x -/
def ZeroAt3 (w : World) (x : Nat) : Prop := Thr w x zLse ∧ Free w (some ⟨x, 0, none⟩) ∧ x < w.heap.size

theorem ZeroAt3.new (w : World) (t : TypeId) : ZeroAt3 (w.alloc (.cells #[.int .i64 0, .int .i64 0, .int .i64 0] t)) w.heap.size := ⟨Thr.new w zLse t, free_alloc w _ t 0, by simp⟩

theorem ZeroAt3.below {w w' : World} {x B : Nat} (h : ZeroAt3 w x) (hb : Below B w w') (hB : x < B) : ZeroAt3 w' x :=
  ⟨h.1.below hb hB, h.2.1.below hb (fun b e => by simp [blk] at e; omega), Nat.lt_of_lt_of_le h.2.2 hb.size⟩

theorem ZeroAt3.cells {w : World} {n : Nat} (h : ZeroAt3 w n) : (w.cell? ⟨n, 0, none⟩ = some (.int .i64 0) ∧ w.cell? ⟨n, 1, none⟩ = some (.int .i64 0) ∧ w.cell? ⟨n, 2, none⟩ = some (.int .i64 0)) ∧
    w.frozen? ⟨n, 0, none⟩ = false ∧ w.frozen? ⟨n, 1, none⟩ = false ∧ w.frozen? ⟨n, 2, none⟩ = false :=
  ⟨h.1, h.2.1 _ rfl 0, h.2.1 _ rfl 1, h.2.1 _ rfl 2⟩

set_option maxRecDepth 100000 in
theorem l05Read_any (t : ByteArray) (w : World) (ht : t.size ≤ 1000000) : Calls Tryz.prog 57 #[.string t] w fun e w' => ∃ a b, e = .returned (.tuple #[.agg #[.int .i64 a.tk, .int .i64 a.ow, .int .i64 a.un], .bool b]) ∧ LseRd t a b ∧ Below w.heap.size w w' := by
  go_enter Tryz.func57, Tryz.ntmps57
  go_wp2_with fail
  have hZ := ZeroAt3.new w 62
  have hbw : Below w.heap.size w (w.alloc (.cells #[.int .i64 0, .int .i64 0, .int .i64 0] 62)) := bal (Below.refl _ _) _
  generalize w.alloc (.cells #[.int .i64 0, .int .i64 0, .int .i64 0] 62) = w0 at *
  generalize hx0 : w.heap.size = x0 at *
  have Hx0 := Lib.hid hx0; clear hx0
  have HZ := Lib.hid hZ; clear hZ
  refine (l02Numbers_any t 44 3 w0 comma_no ht).mono ?_
  rintro e w1 ⟨A, k, ns, b, rfl, hN, hO, hb1⟩
  have b1 : Below x0 w w1 := hbw.trans (hb1.mono (Nat.le_of_lt HZ.out.2.2))
  have HZ1 := Lib.hid (HZ.out.below hb1 HZ.out.2.2)
  rcases hN with ⟨rfl, h6, hN, hf⟩ | ⟨rfl, hno⟩
  · obtain ⟨a, ha⟩ := thr_list h6
    subst ha
    obtain ⟨hsl, _, hbk, _⟩ := OwnSl.sl hO (fun x => rfl)
    obtain ⟨b, o, rfl, _, _⟩ := hsl (by simp [GLse.nums])
    obtain ⟨⟨q0, q1, q2⟩, hbl⟩ := nums_cells3 hsl
    have HN := Lib.hid hN; clear hN
    have HF := Lib.hid hf; clear hf
    have e6 : a.nums.length = 3 := rfl
    rw [e6]
    clear hsl hbk hO h6 hb1 e6 HZ hbw
    by_cases hp : LseP a
    · have HR := Lib.hid (show LseRd t a true from Or.inl ⟨rfl, hp, HN.out⟩)
      have Hp := Lib.hid hp; clear hp HN HF
      go_wp2_with fail
      go_region_held3 (fun w' => w'.cell? ⟨b, o, none⟩ = some (.int .i64 a.tk) ∧ w'.cell? ⟨b, o + 1, none⟩ = some (.int .i64 a.ow) ∧ w'.cell? ⟨b, o + 2, none⟩ = some (.int .i64 a.un)) (first | exact ⟨q0, q1, q2⟩ | (go_keep; done)) (fail)
      have hS2 : Thr (w1.alloc (.cells #[.int .i64 a.tk, .int .i64 a.ow, .int .i64 a.un] 62)).drew w1.heap.size a := Thr.new w1 a _
      have hB2 : Below w1.heap.size w1 (w1.alloc (.cells #[.int .i64 a.tk, .int .i64 a.ow, .int .i64 a.un] 62)).drew := (bal (Below.refl _ _) _).drew
      have hL2 : w1.heap.size < (w1.alloc (.cells #[.int .i64 a.tk, .int .i64 a.ow, .int .i64 a.un] 62)).drew.heap.size := by simp
      clear q0 q1 q2
      generalize (w1.alloc (.cells #[.int .i64 a.tk, .int .i64 a.ow, .int .i64 a.un] 62)).drew = w2 at *
      have HZ2 := Lib.hid (HZ1.out.below hB2 HZ1.out.2.2)
      have b2 : Below x0 w w2 := b1.trans (hB2.mono (Nat.le_of_lt HZ1.out.2.2))
      have hx1 : x0 < w1.heap.size := HZ1.out.2.2
      clear hB2 b1 HZ1
      generalize w1.heap.size = y0 at *
      have HS2 := Lib.hid hS2
      obtain ⟨s0, s1, s2⟩ : (w2.cell? ⟨y0, 0, none⟩ = some (.int .i64 a.tk) ∧ w2.cell? ⟨y0, 1, none⟩ = some (.int .i64 a.ow) ∧ w2.cell? ⟨y0, 2, none⟩ = some (.int .i64 a.un)) := hS2
      go_wp2_with fail
      refine (specLeaseOK_b a true (by simp [Hp.out]) w2).mono ?_
      rintro e w3 ⟨rfl, hb3⟩
      have HZ3 := HZ2.out.below hb3 HZ2.out.2.2
      have b3 : Below x0 w w3 := b2.trans (hb3.mono (Nat.le_of_lt HZ2.out.2.2))
      have hS3 := HS2.out.below hb3 hL2
      obtain ⟨⟨z0, z1, z2⟩, y0', y1', y2'⟩ := HZ3.cells
      clear HZ2 HS2 hb3 b2 s0 s1 s2 HZ3
      obtain ⟨s0, s1, s2⟩ : (w3.cell? ⟨y0, 0, none⟩ = some (.int .i64 a.tk) ∧ w3.cell? ⟨y0, 1, none⟩ = some (.int .i64 a.ow) ∧ w3.cell? ⟨y0, 2, none⟩ = some (.int .i64 a.un)) := hS3
      go_wp2
      refine bodyPost_ret (v := .tuple #[.agg #[.int .i64 a.tk, .int .i64 a.ow, .int .i64 a.un], .bool true]) (by simp [results, Tryz.results57, go_sem, *]) rfl ⟨a, true, rfl, HR.out, ?_⟩
      rw [Hx0.out]
      exact setLse_below b3 (Nat.le_refl _) a
    · have HR := Lib.hid (show LseRd t zLse false from Or.inr ⟨rfl, rfl, noLse_bad HN.out HF.out hp⟩)
      have Hp := Lib.hid hp; clear hp HN HF
      go_wp2_with fail
      go_region_held3 (fun w' => w'.cell? ⟨b, o, none⟩ = some (.int .i64 a.tk) ∧ w'.cell? ⟨b, o + 1, none⟩ = some (.int .i64 a.ow) ∧ w'.cell? ⟨b, o + 2, none⟩ = some (.int .i64 a.un)) (first | exact ⟨q0, q1, q2⟩ | (go_keep; done)) (fail)
      have hS2 : Thr (w1.alloc (.cells #[.int .i64 a.tk, .int .i64 a.ow, .int .i64 a.un] 62)).drew w1.heap.size a := Thr.new w1 a _
      have hB2 : Below w1.heap.size w1 (w1.alloc (.cells #[.int .i64 a.tk, .int .i64 a.ow, .int .i64 a.un] 62)).drew := (bal (Below.refl _ _) _).drew
      have hL2 : w1.heap.size < (w1.alloc (.cells #[.int .i64 a.tk, .int .i64 a.ow, .int .i64 a.un] 62)).drew.heap.size := by simp
      clear q0 q1 q2
      generalize (w1.alloc (.cells #[.int .i64 a.tk, .int .i64 a.ow, .int .i64 a.un] 62)).drew = w2 at *
      have HZ2 := Lib.hid (HZ1.out.below hB2 HZ1.out.2.2)
      have b2 : Below x0 w w2 := b1.trans (hB2.mono (Nat.le_of_lt HZ1.out.2.2))
      have hx1 : x0 < w1.heap.size := HZ1.out.2.2
      clear hB2 b1 HZ1
      generalize w1.heap.size = y0 at *
      have HS2 := Lib.hid hS2
      obtain ⟨s0, s1, s2⟩ : (w2.cell? ⟨y0, 0, none⟩ = some (.int .i64 a.tk) ∧ w2.cell? ⟨y0, 1, none⟩ = some (.int .i64 a.ow) ∧ w2.cell? ⟨y0, 2, none⟩ = some (.int .i64 a.un)) := hS2
      go_wp2_with fail
      refine (specLeaseOK_b a false (by simp [Hp.out]) w2).mono ?_
      rintro e w3 ⟨rfl, hb3⟩
      have HZ3 := HZ2.out.below hb3 HZ2.out.2.2
      have b3 : Below x0 w w3 := b2.trans (hb3.mono (Nat.le_of_lt HZ2.out.2.2))
      have hS3 := HS2.out.below hb3 hL2
      obtain ⟨⟨z0, z1, z2⟩, y0', y1', y2'⟩ := HZ3.cells
      clear HZ2 HS2 hb3 b2 s0 s1 s2 HZ3
      obtain ⟨s0, s1, s2⟩ : (w3.cell? ⟨y0, 0, none⟩ = some (.int .i64 a.tk) ∧ w3.cell? ⟨y0, 1, none⟩ = some (.int .i64 a.ow) ∧ w3.cell? ⟨y0, 2, none⟩ = some (.int .i64 a.un)) := hS3
      go_wp2
      refine bodyPost_ret (v := .tuple #[.agg #[.int .i64 0, .int .i64 0, .int .i64 0], .bool false]) (by simp [results, Tryz.results57, go_sem, *]) rfl ⟨zLse, false, rfl, HR.out, ?_⟩
      rw [Hx0.out]
      exact setLse_below b3 (Nat.le_refl _) zLse
  · have HR := Lib.hid (show LseRd t zLse false from Or.inr ⟨rfl, rfl, noLse_of hno⟩)
    obtain ⟨⟨z0, z1, z2⟩, y0', y1', y2'⟩ := HZ1.out.cells
    clear hno hO hb1 HZ HZ1 hbw
    go_wp2
    refine bodyPost_ret (v := .tuple #[.agg #[.int .i64 0, .int .i64 0, .int .i64 0], .bool false]) (by simp [results, Tryz.results57, go_sem, *]) rfl ⟨zLse, false, rfl, HR.out, ?_⟩
    rw [Hx0.out]
    exact setLse_below b1 (Nat.le_refl _) zLse

/-- what ReadAgg answers -/
def LseCode (t : ByteArray) (a : GLse) (cd : Int) : Prop := (65536 < t.size ∧ a = zLse ∧ cd = 2) ∨ (t.size ≤ 65536 ∧ LseRead t a ∧ cd = 0) ∨ (t.size ≤ 65536 ∧ NoLse t ∧ a = zLse ∧ cd = 3)

theorem lseCode_one {t : ByteArray} {a b : GLse} {c d : Int} (h : LseCode t a c) (k : LseCode t b d) : a = b ∧ c = d := by
  rcases h with ⟨h, rfl, rfl⟩ | ⟨h, h1, rfl⟩ | ⟨h, h1, rfl, rfl⟩ <;> rcases k with ⟨k, rfl, rfl⟩ | ⟨k, k1, rfl⟩ | ⟨k, k1, rfl, rfl⟩
  · exact ⟨rfl, rfl⟩
  · omega
  · omega
  · omega
  · exact ⟨lseRead_one h1 k1, rfl⟩
  · exact absurd h1 (k1 _)
  · omega
  · exact absurd k1 (h1 _)
  · exact ⟨rfl, rfl⟩

end Go.Proofs.YtkpaocejpjhkpaaGreatDoor
