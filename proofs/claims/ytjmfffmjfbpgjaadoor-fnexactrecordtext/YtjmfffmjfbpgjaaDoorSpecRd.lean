/-
  Contracts of the model's l02Numbers, l02Read and ReadAgg: just the text of a right aggregate is read. Conditions: a text's length.
-/
import Derived.Test.YtjmfffmjfbpgjaaDoorParts
import Derived.Test.YtjmfffmjfbpgjaaDoorL00Num
import Derived.Test.YtjmfffmjfbpgjaaDoorAggB
import Derived.Test.YtjmfffmjfbpgjaaDoorSetAgg
import Derived.Test.YtjmfffmjfbpgjaaDoorNumTxt
import Derived.Deep.RegionHeld3
namespace Go.Proofs.YtjmfffmjfbpgjaaDoor
open Go.ChangeShapes Go.WideShapes Go.ChangeAt Go.RowKit
set_option linter.unusedVariables false
set_option linter.unusedSimpArgs false

def niV (n : Int) : List Value := [.int .i64 n]

theorem niV_one (n : Int) : ∀ u ∈ niV n, u.oneCell' = true := by
  intro u hu
  simp [niV] at hu
  subst hu; rfl

theorem new_ni (w : World) (n : Int) (e : TypeId) : Sl niV 1 (w.alloc (.cells #[.int .i64 n] e)) (w.heap.size + 1) (some ⟨w.heap.size, 0, none⟩) [n] := by
  intro _
  refine ⟨w.heap.size, 0, rfl, by omega, fun k hk j v hv => ?_⟩
  obtain rfl : k = 0 := by simpa using hk
  rw [World.cell?_alloc_new]
  match j, hv with
  | 0, hv => simpa [niV] using hv
  | j + 1, hv => simp [niV] at hv

theorem infoNi : (Tryd.prog.info? 3).map (fun i => (i.zero, i.size, i.bytes)) = some (some (.int .i64 0), 1, 8) := by kernel_rfl

/-- what l02Numbers answers -/
def NumsRd (t : ByteArray) (c : UInt8) (n : Nat) (ns : List Int) (b : Bool) : Prop := (b = true ∧ ns.length = n ∧ NumsOf t c ns ∧ ∀ x ∈ ns, FitI x) ∨ (b = false ∧ ∀ ms, ms.length = n → (∀ m ∈ ms, Small m) → ¬ NumsOf t c ms)

theorem cut_len {t : ByteArray} {c : UInt8} {ps : List ByteArray} {last : ByteArray} (h : CutOf t c ps last) : (∀ p ∈ ps ++ [last], p.size ≤ t.size) ∧ ps.length ≤ t.size := by
  have hs : t.size = t.data.toList.length := by rw [Array.length_toList]; rfl
  have key : ∀ (qs : List ByteArray), qs.length ≤ (flatC c qs).length ∧ ∀ p ∈ qs, p.data.toList.length ≤ (flatC c qs).length := by
    intro qs
    induction qs with
    | nil => simp
    | cons q qs ih =>
      have e : (flatC c (q :: qs)).length = q.data.toList.length + 1 + (flatC c qs).length := by simp [flatC]; omega
      rw [e]
      refine ⟨by simp; omega, fun p hp => ?_⟩
      rcases List.mem_cons.1 hp with rfl | hp
      · omega
      · have := ih.2 p hp; omega
  have hk := key ps
  have e := congrArg List.length h.1
  rw [List.length_append, ← hs] at e
  refine ⟨fun p hp => ?_, by omega⟩
  have hp' : p.size = p.data.toList.length := by rw [Array.length_toList]; rfl
  rcases List.mem_append.1 hp with hp | hp
  · have := hk.2 p hp; omega
  · simp at hp; subst hp; omega

/-- a text is that of a right aggregate -/
def AggRead (t : ByteArray) (a : GAgg) : Prop := AggP a ∧ NumsOf t 44 a.nums

def NoAgg (t : ByteArray) : Prop := ∀ a, ¬ AggRead t a

theorem comma_no : NoNum 44 := Or.inl (by decide)

theorem aggP_small {a : GAgg} (h : AggP a) : ∀ n ∈ a.nums, Small n := by
  intro n hn
  unfold Small
  rcases h with rfl | ⟨h1, h2, h3, h4, h5, h6, h7, h8, h9, h10, h11, h12⟩
  · simp [GAgg.nums, zAgg] at hn
    omega
  · have m1 : a.cnt * -1000000 ≤ a.cnt * a.mn := Int.mul_le_mul_of_nonneg_left h3 (by omega)
    have m2 : a.cnt * a.mx ≤ a.cnt * 1000000 := Int.mul_le_mul_of_nonneg_left h6 (by omega)
    simp [GAgg.nums] at hn
    omega

theorem small_fitI {n : Int} (h : Small n) : FitI n := by unfold Small at h; unfold FitI; omega

theorem aggRead_one {t : ByteArray} {a b : GAgg} (h : AggRead t a) (k : AggRead t b) : a = b := by
  have := nums_one comma_no h.2 k.2 (fun n hn => small_fitI (aggP_small h.1 n hn)) (fun n hn => small_fitI (aggP_small k.1 n hn))
  obtain ⟨a0, a1, a2, a3, a4, a5⟩ := a
  obtain ⟨b0, b1, b2, b3, b4, b5⟩ := b
  simp [GAgg.nums] at this
  simp [this]

/-- what is read of an aggregate's text -/
def AggRd (t : ByteArray) (a : GAgg) (b : Bool) : Prop := (b = true ∧ AggRead t a) ∨ (b = false ∧ a = zAgg ∧ NoAgg t)

theorem noAgg_of {t : ByteArray} (h : ∀ ms, ms.length = 6 → (∀ m ∈ ms, Small m) → ¬ NumsOf t 44 ms) : NoAgg t := fun a ha => h a.nums rfl (aggP_small ha.1) ha.2

theorem six_list {ns : List Int} (h : ns.length = 6) : ∃ a : GAgg, a.nums = ns := by
  match ns, h with
  | [a, b, c, d, e, f], _ => exact ⟨⟨a, b, c, d, e, f⟩, rfl⟩

theorem noAgg_bad {t : ByteArray} {a : GAgg} (h : NumsOf t 44 a.nums) (hf : ∀ n ∈ a.nums, FitI n) (hp : ¬ AggP a) : NoAgg t := fun b hb => by
  have := nums_one comma_no h hb.2 hf (fun n hn => small_fitI (aggP_small hb.1 n hn))
  apply hp
  obtain ⟨a0, a1, a2, a3, a4, a5⟩ := a
  obtain ⟨b0, b1, b2, b3, b4, b5⟩ := b
  simp [GAgg.nums] at this
  obtain ⟨rfl, rfl, rfl, rfl, rfl, rfl⟩ := this
  exact hb.1

theorem nums_cells {w : World} {B b o : Nat} {a : GAgg} (h : Sl niV 1 w B (some ⟨b, o, none⟩) a.nums) : (w.cell? ⟨b, o, none⟩ = some (.int .i64 a.cnt) ∧ w.cell? ⟨b, o + 1, none⟩ = some (.int .i64 a.sum) ∧ w.cell? ⟨b, o + 2, none⟩ = some (.int .i64 a.mn) ∧ w.cell? ⟨b, o + 3, none⟩ = some (.int .i64 a.mx) ∧ w.cell? ⟨b, o + 4, none⟩ = some (.int .i64 a.fst) ∧ w.cell? ⟨b, o + 5, none⟩ = some (.int .i64 a.lst)) ∧ b < B := by
  obtain ⟨b', o', e, hb, hc⟩ := h (by simp [GAgg.nums])
  injection e with e
  injection e with e1 e2
  subst e1 e2
  exact ⟨⟨hc 0 (by simp [GAgg.nums]) 0 _ rfl, hc 1 (by simp [GAgg.nums]) 0 _ rfl, hc 2 (by simp [GAgg.nums]) 0 _ rfl, hc 3 (by simp [GAgg.nums]) 0 _ rfl, hc 4 (by simp [GAgg.nums]) 0 _ rfl, hc 5 (by simp [GAgg.nums]) 0 _ rfl⟩, hb⟩

/-- an aggregate's variable, of zeros, in block x -/
def ZeroAt (w : World) (x : Nat) : Prop := Six w x zAgg ∧ Free w (some ⟨x, 0, none⟩) ∧ x < w.heap.size

theorem ZeroAt.new (w : World) (t : TypeId) : ZeroAt (w.alloc (.cells #[.int .i64 0, .int .i64 0, .int .i64 0, .int .i64 0, .int .i64 0, .int .i64 0] t)) w.heap.size := ⟨Six.new w zAgg t, free_alloc w _ t 0, by simp⟩

theorem ZeroAt.below {w w' : World} {x B : Nat} (h : ZeroAt w x) (hb : Below B w w') (hB : x < B) : ZeroAt w' x :=
  ⟨h.1.below hb hB, h.2.1.below hb (fun b e => by simp [blk] at e; omega), Nat.lt_of_lt_of_le h.2.2 hb.size⟩

theorem ZeroAt.cells {w : World} {n : Nat} (h : ZeroAt w n) : (w.cell? ⟨n, 0, none⟩ = some (.int .i64 0) ∧ w.cell? ⟨n, 1, none⟩ = some (.int .i64 0) ∧ w.cell? ⟨n, 2, none⟩ = some (.int .i64 0) ∧ w.cell? ⟨n, 3, none⟩ = some (.int .i64 0) ∧ w.cell? ⟨n, 4, none⟩ = some (.int .i64 0) ∧ w.cell? ⟨n, 5, none⟩ = some (.int .i64 0)) ∧
    w.frozen? ⟨n, 0, none⟩ = false ∧ w.frozen? ⟨n, 1, none⟩ = false ∧ w.frozen? ⟨n, 2, none⟩ = false ∧ w.frozen? ⟨n, 3, none⟩ = false ∧ w.frozen? ⟨n, 4, none⟩ = false ∧ w.frozen? ⟨n, 5, none⟩ = false :=
  ⟨h.1, h.2.1 _ rfl 0, h.2.1 _ rfl 1, h.2.1 _ rfl 2, h.2.1 _ rfl 3, h.2.1 _ rfl 4, h.2.1 _ rfl 5⟩

/-- what ReadAgg answers -/
def AggCode (t : ByteArray) (a : GAgg) (cd : Int) : Prop := (65536 < t.size ∧ a = zAgg ∧ cd = 2) ∨ (t.size ≤ 65536 ∧ AggRead t a ∧ cd = 0) ∨ (t.size ≤ 65536 ∧ NoAgg t ∧ a = zAgg ∧ cd = 3)

theorem aggCode_one {t : ByteArray} {a b : GAgg} {c d : Int} (h : AggCode t a c) (k : AggCode t b d) : a = b ∧ c = d := by
  rcases h with ⟨h, rfl, rfl⟩ | ⟨h, h1, rfl⟩ | ⟨h, h1, rfl, rfl⟩ <;> rcases k with ⟨k, rfl, rfl⟩ | ⟨k, k1, rfl⟩ | ⟨k, k1, rfl, rfl⟩
  · exact ⟨rfl, rfl⟩
  · omega
  · omega
  · omega
  · exact ⟨aggRead_one h1 k1, rfl⟩
  · exact absurd h1 (k1 _)
  · omega
  · exact absurd k1 (h1 _)
  · exact ⟨rfl, rfl⟩

end Go.Proofs.YtjmfffmjfbpgjaaDoor
