/-
  Lists of objects in the order of their keys: one set, one struck. No Go text is walked here.
-/
import Derived.Test.YtpgilbmajbpdkaaClose
namespace Go.Proofs.Ytpgilbmajbpdkaa
open Go.ChangeShapes Go.WideShapes Go.ChangeAt Go.RowKit Go.Maps
set_option linter.unusedVariables false

/-- one object set in its place -/
def setL : List GObj → GObj → List GObj
  | [], o => [o]
  | x :: xs, o => if kb x < kb o then x :: setL xs o else if x.key = o.key then o :: xs else o :: x :: xs

/-- one key struck -/
def delL (xs : List GObj) (key : ByteArray) : List GObj := xs.filter fun x => decide (x.key ≠ key)

theorem kb_inj {a b : GObj} (h : kb a = kb b) : a.key = b.key := bytes_inj h

theorem kb_gt {a b : GObj} (h : ¬ kb a < kb b) (hn : a.key ≠ b.key) : kb b < kb a := by
  have h1 : kb b ≤ kb a := List.not_lt.1 h
  rcases List.le_iff_lt_or_eq.1 h1 with h2 | h2
  · exact h2
  · exact absurd (kb_inj h2).symm hn

theorem setL_mem {o p : GObj} : ∀ {xs : List GObj}, p ∈ setL xs o → p = o ∨ p ∈ xs
  | [], h => by simp [setL] at h; exact .inl h
  | x :: xs, h => by
    unfold setL at h
    split at h
    · rcases List.mem_cons.1 h with rfl | h
      · exact .inr (List.mem_cons_self)
      · rcases setL_mem h with h | h
        · exact .inl h
        · exact .inr (List.mem_cons_of_mem _ h)
    · split at h
      · rcases List.mem_cons.1 h with rfl | h
        · exact .inl rfl
        · exact .inr (List.mem_cons_of_mem _ h)
      · rcases List.mem_cons.1 h with rfl | h
        · exact .inl rfl
        · exact .inr h

theorem setL_rise {o : GObj} : ∀ {xs : List GObj}, Rise xs → Rise (setL xs o)
  | [], _ => List.pairwise_singleton _ _
  | x :: xs, h => by
    obtain ⟨h1, h2⟩ := List.pairwise_cons.1 h
    unfold setL
    split
    · rename_i hlt
      refine List.pairwise_cons.2 ⟨fun p hp => ?_, setL_rise h2⟩
      rcases setL_mem hp with rfl | hp
      · exact hlt
      · exact h1 p hp
    · rename_i hlt
      split
      · rename_i he
        refine List.pairwise_cons.2 ⟨fun p hp => ?_, h2⟩
        have := h1 p hp
        unfold kb at *
        rw [← he]
        exact this
      · rename_i hne
        have hgt := kb_gt hlt hne
        refine List.pairwise_cons.2 ⟨fun p hp => ?_, h⟩
        rcases List.mem_cons.1 hp with rfl | hp
        · exact hgt
        · exact List.lt_trans hgt (h1 p hp)

theorem look_cons (x : GObj) (xs : List GObj) (k : ByteArray) : look (x :: xs) k = if x.key = k then some x else look xs k := by
  unfold look
  rw [List.find?_cons]
  by_cases h : x.key = k <;> simp [h]

theorem setL_look {o : GObj} (k : ByteArray) : ∀ (xs : List GObj), look (setL xs o) k = if k = o.key then some o else look xs k
  | [] => by
    unfold setL
    rw [look_cons]
    by_cases h : o.key = k
    · simp [h]
    · have h' : ¬ k = o.key := fun e => h e.symm
      simp [h, h']
  | x :: xs => by
    unfold setL
    split
    · rename_i hlt
      rw [look_cons, setL_look k xs, look_cons]
      by_cases h : x.key = k
      · have : k ≠ o.key := by
          rintro rfl
          have e : kb x = kb o := by unfold kb; rw [h]
          rw [e] at hlt
          exact List.lt_irrefl _ hlt
        simp [h, this]
      · simp [h]
    · split
      · rename_i he
        rw [look_cons, look_cons, he]
        by_cases h : o.key = k
        · simp [h]
        · have h' : ¬ k = o.key := fun e => h e.symm
          simp [h, h']
      · rw [look_cons]
        by_cases h : o.key = k
        · simp [h]
        · have h' : ¬ k = o.key := fun e => h e.symm
          simp [h, h']

theorem setL_len (o : GObj) : ∀ (xs : List GObj), (setL xs o).length ≤ xs.length + 1
  | [] => by simp [setL]
  | x :: xs => by
    have := setL_len o xs
    unfold setL
    split
    · simp; omega
    · split <;> simp

theorem setL_at (o : GObj) : ∀ (xs : List GObj) (k : Nat) (hk : k ≤ xs.length) (h1 : ∀ j (h : j < xs.length), j < k → kb xs[j] < kb o) (h2 : ∀ h : k < xs.length, ¬ kb xs[k] < kb o),
    (∀ h : k < xs.length, xs[k].key = o.key → setL xs o = xs.take k ++ [o] ++ xs.drop (k + 1)) ∧ ((∀ h : k < xs.length, xs[k].key ≠ o.key) → setL xs o = xs.take k ++ [o] ++ xs.drop k)
  | [], k, hk, _, _ => ⟨fun h => by simp at h, fun _ => by simp [setL]⟩
  | x :: xs, 0, _, _, h2 => by
    have h0 : ¬ kb x < kb o := h2 (by simp)
    refine ⟨fun _ he => ?_, fun hn => ?_⟩
    · have he' : x.key = o.key := he
      unfold setL
      simp [h0, he']
    · have hn' : x.key ≠ o.key := hn (by simp)
      unfold setL
      simp [h0, hn']
  | x :: xs, k + 1, hk, h1, h2 => by
    have h0 : kb x < kb o := h1 0 (by simp) (by omega)
    have ih := setL_at o xs k (by simpa using hk) (fun j hj hjk => h1 (j + 1) (by simpa using hj) (by omega)) (fun h => h2 (by simpa using h))
    refine ⟨fun h he => ?_, fun hn => ?_⟩
    · unfold setL
      simp only [h0, if_true]
      rw [ih.1 (by simpa using h) he]
      simp
    · unfold setL
      simp only [h0, if_true]
      rw [ih.2 (fun h => hn (by simpa using h))]
      simp

theorem delL_rise {xs : List GObj} (h : Rise xs) (key : ByteArray) : Rise (delL xs key) := List.Pairwise.filter _ h

theorem delL_look (key k : ByteArray) : ∀ (xs : List GObj), look (delL xs key) k = if k = key then none else look xs k
  | [] => by simp [delL, look]
  | x :: xs => by
    have ih := delL_look key k xs
    unfold delL at *
    by_cases h : x.key = key
    · rw [List.filter_cons_of_neg (by simpa using h), ih, look_cons]
      by_cases hk : k = key
      · simp [hk]
      · have : ¬ x.key = k := fun e => hk (e.symm.trans h)
        simp [hk, this]
    · rw [List.filter_cons_of_pos (by simpa using h), look_cons, look_cons, ih]
      by_cases hk : k = key
      · subst hk
        simp [h]
      · simp [hk]

theorem delL_len (xs : List GObj) (key : ByteArray) : (delL xs key).length ≤ xs.length := List.length_filter_le _ _

theorem delL_none (key : ByteArray) : ∀ (xs : List GObj), (∀ p ∈ xs, p.key ≠ key) → delL xs key = xs := fun xs h => by
  unfold delL
  rw [List.filter_eq_self]
  intro p hp
  simpa using h p hp

theorem delL_at (key : ByteArray) : ∀ (xs : List GObj), Rise xs → ∀ (i : Nat) (hi : i < xs.length), xs[i].key = key → delL xs key = xs.take i ++ xs.drop (i + 1)
  | [], _, i, hi, _ => by simp at hi
  | x :: xs, hr, 0, _, he => by
    obtain ⟨h1, h2⟩ := List.pairwise_cons.1 hr
    have he' : x.key = key := he
    have hn : delL xs key = xs := delL_none key xs fun p hp e => by
      have := h1 p hp
      unfold kb at this
      rw [e, he'] at this
      exact List.lt_irrefl _ this
    unfold delL at *
    rw [List.filter_cons_of_neg (by simpa using he'), hn]
    simp
  | x :: xs, hr, i + 1, hi, he => by
    obtain ⟨h1, h2⟩ := List.pairwise_cons.1 hr
    have hi' : i < xs.length := by simpa using hi
    have he' : xs[i].key = key := by simpa using he
    have ih := delL_at key xs h2 i hi' he'
    have hx : x.key ≠ key := fun e => by
      have := h1 xs[i] (List.getElem_mem hi')
      unfold kb at this
      rw [e, he'] at this
      exact List.lt_irrefl _ this
    unfold delL at *
    rw [List.filter_cons_of_pos (by simpa using hx), ih]
    simp

theorem rise_of_store {xs : List GObj} {next : Int} (hs : StoreP xs next) : Rise xs := by
  refine List.pairwise_iff_getElem.2 fun i j hi hj hij => ?_
  have h := key_lt hs (j - i - 1) i (by omega)
  have e2 : i + (j - i - 1) + 1 = j := by omega
  simp only [e2] at h
  exact h

end Go.Proofs.Ytpgilbmajbpdkaa
