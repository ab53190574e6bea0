/-
  Contract of the model's l00Cut: a text parted at each of some byte. Conditions: the text's length within an int.
-/
import Derived.Test.YtpfanmcjlfdaiaaGreatDoorRBytes
import Derived.Test.YtpfanmcjlfdaiaaGreatDoorRAppG
import Derived.BigQuiet
import Derived.Outline
namespace Go.Proofs.YtpfanmcjlfdaiaaGreatDoorR
open Go.ChangeShapes Go.WideShapes Go.ChangeAt Go.RowKit
set_option linter.unusedVariables false

def cxV (s : ByteArray) : List Value := [.string s]

theorem cxV_one (s : ByteArray) : ∀ u ∈ cxV s, u.oneCell' = true := by
  intro u hu
  simp [cxV] at hu
  subst hu; rfl

theorem new_cx (w : World) (s : ByteArray) (e : TypeId) : Sl cxV 1 (w.alloc (.cells #[.string s] e)) (w.heap.size + 1) (some ⟨w.heap.size, 0, none⟩) [s] := by
  intro _
  refine ⟨w.heap.size, 0, rfl, by omega, fun k hk j v hv => ?_⟩
  obtain rfl : k = 0 := by simpa using hk
  rw [World.cell?_alloc_new]
  match j, hv with
  | 0, hv => simpa [cxV] using hv
  | j + 1, hv => simp [cxV] at hv

theorem infoCx : (Tryz.prog.info? 9).map (fun i => (i.zero, i.size, i.bytes)) = some (some (.string ByteArray.empty), 1, 16) := by kernel_rfl

/-- pieces, each with a byte behind it -/
def flatC (c : UInt8) (ps : List ByteArray) : List UInt8 := ps.flatMap fun p => p.data.toList ++ [c]

/-- a text parted at each of some byte -/
def CutOf (t : ByteArray) (c : UInt8) (ps : List ByteArray) (last : ByteArray) : Prop :=
  t.data.toList = flatC c ps ++ last.data.toList ∧ (∀ p ∈ ps, c ∉ p.data.toList) ∧ c ∉ last.data.toList

theorem ba_eq {a b : ByteArray} (h : a.data.toList = b.data.toList) : a = b := by
  obtain ⟨⟨a⟩⟩ := a
  obtain ⟨⟨b⟩⟩ := b
  simp at h
  subst h; rfl

theorem app_inj {c : UInt8} : ∀ {p q r s : List UInt8}, c ∉ p → c ∉ q → p ++ c :: r = q ++ c :: s → p = q ∧ r = s
  | [], [], _, _, _, _, e => ⟨rfl, by simpa using e⟩
  | [], y :: q, _, _, _, hq, e => by simp at e; simp [e.1] at hq
  | x :: p, [], _, _, hp, _, e => by simp at e; simp [e.1] at hp
  | x :: p, y :: q, _, _, hp, hq, e => by
    simp only [List.cons_append, List.cons.injEq] at e
    obtain ⟨h1, h2⟩ := app_inj (fun h => hp (by simp [h])) (fun h => hq (by simp [h])) e.2
    exact ⟨by rw [e.1, h1], h2⟩

theorem CutOf.one {t : ByteArray} {c : UInt8} : ∀ {ps qs : List ByteArray} {a b : ByteArray} {t : ByteArray}, CutOf t c ps a → CutOf t c qs b → ps = qs ∧ a = b
  | [], [], a, b, t, h, k => by
    have := h.1.symm.trans k.1
    simp [flatC] at this
    exact ⟨rfl, ba_eq (by simp [this])⟩
  | [], q :: qs, a, b, t, h, k => by
    have := h.1.symm.trans k.1
    simp [flatC] at this
    exact absurd (by rw [this]; simp) h.2.2
  | p :: ps, [], a, b, t, h, k => by
    have := h.1.symm.trans k.1
    simp [flatC] at this
    exact absurd (by rw [← this]; simp) k.2.2
  | p :: ps, q :: qs, a, b, t, h, k => by
    have e := h.1.symm.trans k.1
    simp only [flatC, List.flatMap_cons, List.append_assoc, List.cons_append, List.nil_append] at e
    have hp : c ∉ p.data.toList := h.2.1 p (by simp)
    have hq : c ∉ q.data.toList := k.2.1 q (by simp)
    obtain ⟨e1, e2⟩ := app_inj hp hq e
    have hr : CutOf ⟨(flatC c ps ++ a.data.toList).toArray⟩ c ps a := ⟨by simp, fun x hx => h.2.1 x (by simp [hx]), h.2.2⟩
    have kr : CutOf ⟨(flatC c ps ++ a.data.toList).toArray⟩ c qs b := ⟨by simpa [flatC] using e2, fun x hx => k.2.1 x (by simp [hx]), k.2.2⟩
    obtain ⟨e3, e4⟩ := CutOf.one (t := t) hr kr
    exact ⟨by rw [ba_eq e1, e3], e4⟩

theorem ext_list (t : ByteArray) (a b : Nat) : (t.extract a b).data.toList = (t.data.toList.take b).drop a := by
  rw [ByteArray.data_extract, Array.toList_extract, List.extract_eq_take_drop, List.drop_take]

theorem get_list (t : ByteArray) (i : Nat) (h : i < t.size) : t.data.toList[i]'(by rw [Array.length_toList]; exact h) = t[i] := rfl

theorem cut_step {t : ByteArray} {c : UInt8} {ps : List ByteArray} {f i : Nat} (hfi : f ≤ i) (hi : i < t.size) (hf : flatC c ps = t.data.toList.take f) (he : t[i] = c) : flatC c (ps ++ [t.extract f i]) = t.data.toList.take (i + 1) := by
  have hl : i < t.data.toList.length := by rw [Array.length_toList]; exact hi
  unfold flatC at *
  rw [List.flatMap_append, hf, List.flatMap_singleton, ext_list, List.take_succ_eq_append_getElem hl, get_list t i hi, he, ← List.append_assoc]
  congr 1
  conv => rhs; rw [← List.take_append_drop f (t.data.toList.take i)]
  rw [List.take_take, Nat.min_eq_left hfi]

theorem not_in {t : ByteArray} {c : UInt8} {f i : Nat} (hi : i ≤ t.size) (h : ∀ j (hj : j < t.size), f ≤ j → j < i → t[j] ≠ c) : c ∉ (t.extract f i).data.toList := by
  rw [ext_list]
  intro hm
  obtain ⟨k, hk, e⟩ := List.mem_iff_getElem.1 hm
  rw [List.getElem_drop, List.getElem_take] at e
  simp at hk
  have hs : t.data.size = t.size := rfl
  exact h (f + k) (by omega) (by omega) (by omega) e

set_option maxRecDepth 100000 in
theorem l00Cut_any (t : ByteArray) (c : UInt8) (w : World) (ht : t.size ≤ 1048576) : Calls Tryz.prog 84 #[.string t, .int .u8 (c.toNat : Int)] w fun e w' => ∃ A k ps last, e = .returned (.slice A (ps.length + 1) k) ∧ OwnSl cxV 1 9 w.heap.size w' (.slice A (ps.length + 1) k) (ps ++ [last]) ∧ CutOf t c ps last ∧ Below w.heap.size w w' := by
  go_enter Tryz.func84, Tryz.ntmps84
  go_wp2_with fail
  have o0 : OwnSl cxV 1 9 w.heap.size (w.alloc (.cells #[] 9)) (.slice (some ⟨w.heap.size, 0, none⟩) 0 0) [] := own_empty _ _ _ w
  have hbw : Below w.heap.size w (w.alloc (.cells #[] 9)) := bal (Below.refl _ _) _
  generalize w.alloc (.cells #[] 9) = w0 at o0 hbw ⊢
  have O0 := Lib.hid o0; clear o0
  go_loopw [5, 6, 7] (fun s fr x wr => ∃ (A : Option Addr) (k f i : Nat) (ps : List ByteArray), s = .slice A ps.length k ∧ fr = .int .i64 f ∧ x = .int .i64 i ∧ f ≤ i ∧ i ≤ t.size ∧ ps.length ≤ i ∧ Hid (OwnSl cxV 1 9 w.heap.size wr (.slice A ps.length k) ps) ∧ Hid (flatC c ps = t.data.toList.take f) ∧ Hid (∀ p ∈ ps, c ∉ p.data.toList) ∧ Hid (∀ j (hj : j < t.size), f ≤ j → j < i → t[j] ≠ c) ∧ Below w.heap.size w wr) (fun _ _ x _ => t.size - (intOf x).toNat)
  case atStart => exact ⟨_, _, 0, 0, [], rfl, rfl, rfl, by omega, by omega, by simp, O0, Lib.hid rfl, Lib.hid (by simp), Lib.hid (fun j _ _ h => by omega), hbw⟩
  case round =>
    clear O0 hbw
    obtain ⟨A, k, f, i, ps, rfl, rfl, rfl, hfi, hi, hpl, HO, HF, HP, HN, hb⟩ := hrel
    have f0 : (0 : Int) ≤ (f : Int) := by omega
    have f1 : (f : Int) ≤ (i : Int) := by omega
    have f2 : (i : Int) ≤ (t.size : Int) := by omega
    have f3 : (f : Int) ≤ (t.size : Int) := by omega
    by_cases hlt : i < t.size
    · by_cases he : t[i] = c
      · have d : ((t[i].toNat : Int) == (c.toNat : Int)) = true := by simp [he]
        have HF2 := Lib.hid (cut_step hfi hlt HF.out he)
        have HP2 := Lib.hid (show ∀ p ∈ ps ++ [t.extract f i], c ∉ p.data.toList from fun p hp => by
          rcases List.mem_append.1 hp with hp | hp
          · exact HP.out p hp
          · simp at hp; subst hp; exact not_in hi HN.out)
        have hO4 := HO.out.below (bal (Below.refl _ wr) (.cells #[.string (t.extract f i)] 9))
        have HO4 := Lib.hid hO4; clear hO4
        have HNw := Lib.hid (new_cx wr (t.extract f i) 9)
        have sz : w.heap.size ≤ wr.heap.size := hb.size
        have Hb4 := Lib.hid (bal hb (.cells #[.string (t.extract f i)] 9))
        clear he HN HP HO HF
        go_wp2_with (at_builtin; refine wpList_append_sl cxV 1 16 (fun _ => rfl) cxV_one 102 9 _ infoCx rfl (by omega) Tryz.underlying102 rfl _ _ rfl w.heap.size ps [t.extract f i] (.slice A ps.length k) rfl HO4.out (some ⟨wr.heap.size, 0, none⟩) 1 (wr.heap.size + 1) rfl HNw.out (by simp [maxLen]; omega) (by simp; omega) (by simp; omega) ?_; intro v' w5 hO5 hg5 _; obtain ⟨A5, c5, rfl⟩ := hO5.form; have HO5 := Lib.hid hO5; clear hO5; have Hg5 := Lib.hid hg5; clear hg5)
        have hb5 : Below w.heap.size w w5 := Hb4.out.trans (below_of_grown Hg5.out (by simp; omega) (fun g e => (World.ownsRow.lt HO4.out g e).1))
        go_roundw
        case rel => exact ⟨A5, c5, i + 1, i + 1, ps ++ [t.extract f i], by simp, by go_num, by go_num, by omega, by omega, by simp; omega, HO5, HF2, HP2, Lib.hid (fun j _ h1 h2 => by omega), hb5⟩
        case measure => simp [intOf]; omega
      · have d : ((t[i].toNat : Int) == (c.toNat : Int)) = false := by
          simp only [beq_eq_false_iff_ne, ne_eq]
          intro h
          exact he (UInt8.toNat_inj.1 (by omega))
        have HN2 := Lib.hid (show ∀ j (hj : j < t.size), f ≤ j → j < i + 1 → t[j] ≠ c from fun j hj h1 h2 => by
          by_cases e : j = i
          · subst e; exact he
          · exact HN.out j hj h1 (by omega))
        clear he HN
        go_wp2
        go_roundw
        case rel => exact ⟨A, k, f, i + 1, ps, rfl, rfl, by go_num, by omega, by omega, by omega, HO, HF, HP, HN2, hb⟩
        case measure => simp [intOf]; omega
    · obtain rfl : i = t.size := by omega
      have HC := Lib.hid (show CutOf t c ps (t.extract f t.size) from ⟨by
        rw [HF.out, ext_list, List.take_of_length_le (show t.data.toList.length ≤ t.size from Nat.le_of_eq (by rw [Array.length_toList]; rfl)), List.take_append_drop], HP.out, not_in (Nat.le_refl _) HN.out⟩)
      have hO4 := HO.out.below (bal (Below.refl _ wr) (.cells #[.string (t.extract f t.size)] 9))
      have HO4 := Lib.hid hO4; clear hO4
      have HNw := Lib.hid (new_cx wr (t.extract f t.size) 9)
      have sz : w.heap.size ≤ wr.heap.size := hb.size
      have Hb4 := Lib.hid (bal hb (.cells #[.string (t.extract f t.size)] 9))
      clear HN HP HO HF
      go_wp2_with (at_builtin; refine wpList_append_sl cxV 1 16 (fun _ => rfl) cxV_one 102 9 _ infoCx rfl (by omega) Tryz.underlying102 rfl _ _ rfl w.heap.size ps [t.extract f t.size] (.slice A ps.length k) rfl HO4.out (some ⟨wr.heap.size, 0, none⟩) 1 (wr.heap.size + 1) rfl HNw.out (by simp [maxLen]; omega) (by simp; omega) (by simp; omega) ?_; intro v' w5 hO5 hg5 _; obtain ⟨A5, c5, rfl⟩ := hO5.form; have HO5 := Lib.hid hO5; clear hO5; have Hg5 := Lib.hid hg5; clear hg5)
      have hb5 : Below w.heap.size w w5 := Hb4.out.trans (below_of_grown Hg5.out (by simp; omega) (fun g e => (World.ownsRow.lt HO4.out g e).1))
      go_ret
      exact ⟨A5, c5, ps, t.extract f t.size, by simp, by simpa using HO5.out, HC.out, hb5⟩

end Go.Proofs.YtpfanmcjlfdaiaaGreatDoorR
