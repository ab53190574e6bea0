/-
  Several texts as one: contracts that the law leans on; each part says what it proves and its conditions.
-/
import Derived.Test.YtpfanmcjlfdaiaaGreatDoorRTk
import Derived.Test.YtpfanmcjlfdaiaaGreatDoorRN13
import Derived.Test.YtpfanmcjlfdaiaaGreatDoorRLedP1
import Derived.Test.YtpfanmcjlfdaiaaGreatDoorRLedP2
import Derived.Test.YtpfanmcjlfdaiaaGreatDoorRN12
import Derived.Test.YtpfanmcjlfdaiaaGreatDoorRN10
import Derived.Test.YtpfanmcjlfdaiaaGreatDoorRN15
import Derived.Test.YtpfanmcjlfdaiaaGreatDoorRRecD
import Derived.Test.YtpfanmcjlfdaiaaGreatDoorROpenStt
import Derived.Deep.MidRow

/- Keys behind a retirement and a purge; contracts of slices.Index over entries, of retire and of purge. Conditions: the record is one that the log takes, lengths. -/
namespace Go.Proofs.YtpfanmcjlfdaiaaGreatDoorR
open Go.ChangeShapes Go.WideShapes Go.ChangeAt Go.RowKit Go.Deep Go.Joins Go.Maps
set_option linter.unusedVariables false
set_option linter.unusedSimpArgs false

theorem mem_erase {α : Type} {xs : List α} {k : Nat} (hk : k < xs.length) (x : α) : x ∈ xs ↔ x ∈ xs.eraseIdx k ∨ x = xs[k] := by
  rw [erase_take]
  have h : xs = (xs.take k ++ [xs[k]]) ++ xs.drop (k + 1) := by rw [← List.take_succ_eq_append_getElem hk, List.take_append_drop]
  constructor
  · intro hx
    rw [h] at hx
    simp only [List.mem_append, List.mem_singleton] at hx ⊢
    rcases hx with (hx | hx) | hx
    · exact .inl (.inl hx)
    · exact .inr hx
    · exact .inl (.inr hx)
  · rintro (hx | hx)
    · rcases List.mem_append.1 hx with hx | hx
      · exact List.mem_of_mem_take hx
      · exact List.mem_of_mem_drop hx
    · rw [hx]; exact List.getElem_mem hk

theorem keys_retire {s s' : GSt} {k : Nat} (hk : k < s.ents.length) {q : Int} {key : ByteArray} (hkey : s.ents[k].key = key) (he : s'.ents = s.ents.eraseIdx k) (ht : s'.tmbs = s.tmbs ++ [⟨q, key⟩]) (x : ByteArray) : memB x (keysAll s) = memB x (keysAll s') := by
  apply memB_eq
  rw [memB_iff, mem_keysAll, mem_keysAll, he, ht]
  constructor
  · rintro (⟨e, h1, h2⟩ | ⟨t, h1, h2⟩)
    · rcases (mem_erase hk e).1 h1 with h | h
      · exact .inl ⟨e, h, h2⟩
      · exact .inr ⟨⟨q, key⟩, by simp, by rw [← h2, h, hkey]⟩
    · exact .inr ⟨t, by simp [h1], h2⟩
  · rintro (⟨e, h1, h2⟩ | ⟨t, h1, h2⟩)
    · exact .inl ⟨e, (mem_erase hk e).2 (.inl h1), h2⟩
    · rcases List.mem_append.1 h1 with h | h
      · exact .inr ⟨t, h, h2⟩
      · simp at h; subst h; exact .inl ⟨s.ents[k], List.getElem_mem hk, by rw [hkey]; exact h2⟩

theorem keysN_tmbs {s : GSt} (h : keysN s) : (s.tmbs.map (·.key)).Nodup := by
  have h1 := (List.nodup_append.1 h).1
  rw [List.take_length] at h1
  exact (List.pairwise_reverse.1 h1).imp (fun h => h.symm)

theorem keysN_apart {s : GSt} (h : keysN s) : ∀ e ∈ s.ents, ∀ t ∈ s.tmbs, t.key ≠ e.key := by
  intro e he t ht hq
  have h1 := (List.nodup_append.1 h).2.2
  rw [List.take_length, List.take_length] at h1
  exact h1 t.key (List.mem_reverse.2 (List.mem_map.2 ⟨t, ht, rfl⟩)) e.key (List.mem_reverse.2 (List.mem_map.2 ⟨e, he, rfl⟩)) hq

theorem keys_purge {s s' : GSt} (hN : keysN s) {k : Nat} (hk : k < s.tmbs.length) {key : ByteArray} (hkey : s.tmbs[k].key = key) (he : s'.ents = s.ents) (ht : s'.tmbs = s.tmbs.eraseIdx k) (x : ByteArray) : (!decide (x = key) && memB x (keysAll s)) = memB x (keysAll s') := by
  have hf := erase_only (fun t : GTmb => t.key) key s.tmbs k hk hkey (keysN_tmbs hN)
  apply memB_eq
  rw [Bool.and_eq_true, memB_iff, mem_keysAll, mem_keysAll, he, ht, hf]
  simp only [Bool.not_eq_true', decide_eq_false_iff_not, List.mem_filter, decide_eq_true_eq]
  constructor
  · rintro ⟨h0, h | ⟨t, h1, h2⟩⟩
    · exact .inl h
    · exact .inr ⟨t, ⟨h1, by rw [h2]; exact h0⟩, h2⟩
  · rintro (⟨e, h1, h2⟩ | ⟨t, ⟨h1, h3⟩, h2⟩)
    · refine ⟨fun h => ?_, .inl ⟨e, h1, h2⟩⟩
      exact keysN_apart hN e h1 _ (List.getElem_mem hk) (by rw [hkey, ← h, h2])
    · exact ⟨fun h => h3 (by rw [h2, h]), .inr ⟨t, h1, h2⟩⟩

/-- the place of the first entry that is e, or -1 -/
def EntIx (xs : List GEnt) (e : GEnt) (i : Int) : Prop := (i = -1 ∧ ∀ x ∈ xs, x ≠ e) ∨ (∃ (k : Nat) (h : k < xs.length), i = k ∧ xs[k] = e ∧ ∀ j (hj : j < xs.length), j < k → xs[j] ≠ e)

set_option maxRecDepth 100000 in
theorem indexEnt_any (A : Option Addr) (c : Nat) (xs : List GEnt) (e : GEnt) (B : Nat) (w : World) (h : EntsAt w B A xs) (hB : B ≤ w.heap.size) (hl : xs.length ≤ 1048576) :
    Calls Tryz.prog 122 #[.slice A xs.length c, .agg #[.int .i64 e.tier, .int .i64 e.beg, .int .i64 e.fin, .string e.key]] w fun q w' => ∃ i : Int, EntIx xs e i ∧ q = .returned (.int .i64 i) ∧ Below w.heap.size w w' := by
  have H := Lib.hid h; clear h
  go_enter Tryz.func122, Tryz.ntmps122
  go_wp2_with fail
  obtain ⟨W, hW⟩ : ∃ W, W = w.alloc (.cells #[.int .i64 e.tier, .int .i64 e.beg, .int .i64 e.fin, .string e.key] 103) := ⟨_, rfl⟩
  have CE : Hid (Cells W w.heap.size 0 [.int .i64 e.tier, .int .i64 e.beg, .int .i64 e.fin, .string e.key]) := Lib.hid (by rw [hW]; exact Cells.new w _ _)
  have b0 : Below w.heap.size w W := by rw [hW]; exact bal (Below.refl _ _) _
  have s0 : w.heap.size < W.heap.size := by rw [hW]; simp
  rw [← hW]
  clear hW
  go_loopw [8] (fun i wr => ∃ k : Nat, k ≤ xs.length ∧ i = .int .i64 k ∧ Hid (∀ j (hj : j < xs.length), j < k → xs[j] ≠ e) ∧ Below W.heap.size W wr) (fun i _ => xs.length - (intOf i).toNat)
  case atStart => exact ⟨0, by omega, rfl, Lib.hid (fun j _ h => by omega), Below.refl _ _⟩
  case round =>
    obtain ⟨k, hk, rfl, HN, hb⟩ := hrel
    have hbw : Below w.heap.size w wr := b0.trans (hb.mono (Nat.le_of_lt s0))
    by_cases hlt : k < xs.length
    · obtain ⟨b1, o1, rfl, hb1, p0, p1, p2, p3⟩ := EntsAt.one (Sl.below H.out hbw hB) hlt
      have ce := CE.out.below hb s0
      have q0 := ce 0 _ rfl
      have q1 := ce 1 _ rfl
      have q2 := ce 2 _ rfl
      have q3 := ce 3 _ rfl
      simp only [Nat.zero_add] at q0 q1 q2 q3
      clear ce
      have HX : Hid (xs[k] = e → EntIx xs e k) := Lib.hid (fun h => .inr ⟨k, hlt, rfl, h, HN.out⟩)
      have HN1 : Hid (xs[k] ≠ e → ∀ j (hj : j < xs.length), j < k + 1 → xs[j] ≠ e) := Lib.hid (fun h j hj hjk => by
        rcases Nat.lt_or_ge j k with h1 | h1
        · exact HN.out j hj h1
        · obtain rfl : j = k := by omega
          exact h)
      generalize xs[k] = x at *
      by_cases he : e = x
      · have ev := eqEntV e x true (decide_eq_true he)
        have HI := Lib.hid (HX.out he.symm)
        clear he
        go_wp2_with fail
        go_quiet (fail)
        go_wp2
        go_ret
        exact ⟨_, HI.out, rfl, bdrewB hbw _⟩
      · have ev := eqEntV e x false (decide_eq_false he)
        have HN2 := Lib.hid (HN1.out (fun h => he h.symm))
        clear he
        go_wp2_with fail
        go_quiet (fail)
        go_wp2
        go_roundw
        case rel => exact ⟨k + 1, by omega, by go_num, HN2, bdrewB hb _⟩
        case measure => simp [intOf]; omega
    · have HE : Hid (EntIx xs e (-1)) := Lib.hid (.inl ⟨rfl, fun x hx hxe => by
        obtain ⟨j, hj, rfl⟩ := List.getElem_of_mem hx
        exact HN.out j hj (by omega) hxe⟩)
      go_wp2
      go_ret
      exact ⟨_, HE.out, rfl, hbw⟩

set_option maxRecDepth 100000 in
theorem purge_any (base g : Nat) (s : GSt) (A : Option Addr) (c : Nat) (A2 : Option Addr) (c2 m n : Nat) (w : World) (hL : Led base g w s A c A2 c2 m n) (r : GRec) (hks : r.key.size ≤ 1048576) (hl2 : s.tmbs.length ≤ 1048576) (hN : keysN s) (hex : ∃ t ∈ s.tmbs, t.key = r.key) :
    Calls Tryz.prog 106 #[.pointer (some ⟨g, 0, none⟩), .agg #[.int .i64 r.kind, .int .i64 r.tok, .int .i64 r.tier, .int .i64 r.beg, .int .i64 r.fin, .string r.key]] w (DoneL base g A A2 m w { s with tmbs := s.tmbs.filter fun t => decide (¬ t.key = r.key) }) := by
  obtain ⟨W, hW⟩ : ∃ W, W = w.alloc (.cells #[.int .i64 r.kind, .int .i64 r.tok, .int .i64 r.tier, .int .i64 r.beg, .int .i64 r.fin, .string r.key] 38) := ⟨_, rfl⟩
  have CR : Hid (Cells W w.heap.size 0 [.int .i64 r.kind, .int .i64 r.tok, .int .i64 r.tier, .int .i64 r.beg, .int .i64 r.fin, .string r.key]) := Lib.hid (by rw [hW]; exact Cells.new w _ _)
  have b0 : Below w.heap.size w W := by rw [hW]; exact bal (Below.refl _ _) _
  have s0 : w.heap.size < W.heap.size := by rw [hW]; simp
  have hgl := hL.gl
  have HF := Lib.hid (hL.toF.kept b0)
  have HLw := Lib.hid hL; clear hL
  have HS : Hid (∀ w', Below W.heap.size W w' → (fun w' => w'.cell? ⟨w.heap.size, 0, none⟩ = some (.int .i64 r.kind) ∧ w'.cell? ⟨w.heap.size, 1, none⟩ = some (.int .i64 r.tok) ∧ w'.cell? ⟨w.heap.size, 2, none⟩ = some (.int .i64 r.tier) ∧ w'.cell? ⟨w.heap.size, 3, none⟩ = some (.int .i64 r.beg) ∧ w'.cell? ⟨w.heap.size, 4, none⟩ = some (.int .i64 r.fin) ∧ w'.cell? ⟨w.heap.size, 5, none⟩ = some (.string r.key)) w') := Lib.hid (fun w' hb => by
    have h1 := CR.out.below hb s0
    exact ⟨by simpa using h1 0 _ rfl, by simpa using h1 1 _ rfl, by simpa using h1 2 _ rfl, by simpa using h1 3 _ rfl, by simpa using h1 4 _ rfl, by simpa using h1 5 _ rfl⟩)
  have HSC : Hid (∀ (w' : World) (k : Nat) (v : Value), (fun w' => w'.cell? ⟨w.heap.size, 0, none⟩ = some (.int .i64 r.kind) ∧ w'.cell? ⟨w.heap.size, 1, none⟩ = some (.int .i64 r.tok) ∧ w'.cell? ⟨w.heap.size, 2, none⟩ = some (.int .i64 r.tier) ∧ w'.cell? ⟨w.heap.size, 3, none⟩ = some (.int .i64 r.beg) ∧ w'.cell? ⟨w.heap.size, 4, none⟩ = some (.int .i64 r.fin) ∧ w'.cell? ⟨w.heap.size, 5, none⟩ = some (.string r.key)) w' → (fun w' => w'.cell? ⟨w.heap.size, 0, none⟩ = some (.int .i64 r.kind) ∧ w'.cell? ⟨w.heap.size, 1, none⟩ = some (.int .i64 r.tok) ∧ w'.cell? ⟨w.heap.size, 2, none⟩ = some (.int .i64 r.tier) ∧ w'.cell? ⟨w.heap.size, 3, none⟩ = some (.int .i64 r.beg) ∧ w'.cell? ⟨w.heap.size, 4, none⟩ = some (.int .i64 r.fin) ∧ w'.cell? ⟨w.heap.size, 5, none⟩ = some (.string r.key)) (w'.setCell ⟨g, k, none⟩ v)) := Lib.hid (fun w' k v h => by
    have hne : ∀ i, (w'.setCell ⟨g, k, none⟩ v).cell? ⟨w.heap.size, i, none⟩ = w'.cell? ⟨w.heap.size, i, none⟩ := fun i => World.cell?_setCell_other w' ⟨g, k, none⟩ ⟨w.heap.size, i, none⟩ v (fun e => by injection e with e1; omega)
    simp only [hne]
    exact h)
  have HSG : Hid (∀ (w' w2 : World) (row : Option Nat), w.heap.size < w'.heap.size → w'.grownBy w2 row → (∀ i, row = some i → i ≠ w.heap.size) → (fun w' => w'.cell? ⟨w.heap.size, 0, none⟩ = some (.int .i64 r.kind) ∧ w'.cell? ⟨w.heap.size, 1, none⟩ = some (.int .i64 r.tok) ∧ w'.cell? ⟨w.heap.size, 2, none⟩ = some (.int .i64 r.tier) ∧ w'.cell? ⟨w.heap.size, 3, none⟩ = some (.int .i64 r.beg) ∧ w'.cell? ⟨w.heap.size, 4, none⟩ = some (.int .i64 r.fin) ∧ w'.cell? ⟨w.heap.size, 5, none⟩ = some (.string r.key)) w' → (fun w' => w'.cell? ⟨w.heap.size, 0, none⟩ = some (.int .i64 r.kind) ∧ w'.cell? ⟨w.heap.size, 1, none⟩ = some (.int .i64 r.tok) ∧ w'.cell? ⟨w.heap.size, 2, none⟩ = some (.int .i64 r.tier) ∧ w'.cell? ⟨w.heap.size, 3, none⟩ = some (.int .i64 r.beg) ∧ w'.cell? ⟨w.heap.size, 4, none⟩ = some (.int .i64 r.fin) ∧ w'.cell? ⟨w.heap.size, 5, none⟩ = some (.string r.key)) w2) := Lib.hid (fun w' w2 row hs hg hi h => by
    have h0 : ∀ i, w2.cell? ⟨w.heap.size, i, none⟩ = w'.cell? ⟨w.heap.size, i, none⟩ := fun i => World.cell?_of_block (a := ⟨w.heap.size, i, none⟩) (hg.block w.heap.size hs (fun e => hi _ e.symm rfl))
    simp only [h0]
    exact h)
  have q5 := (HS.out W (Below.refl _ _)).2.2.2.2.2
  have HLW := Lib.hid (HF.out.toLed (fun _ => rfl))
  have HN := Lib.hid hN; clear hN
  have HX := Lib.hid hex; clear hex
  have HW := Lib.hid hW; clear hW
  go_enter Tryz.func106, Tryz.ntmps106
  go_upto_region 1 with fail
  rw [← HW.out]
  go_wp2_with fail
  refine (tombOf_any base g s A c A2 c2 m n W HLW.out r.key hl2).mono ?_
  rintro q w3 ⟨i, hi, rfl, hb3⟩
  obtain ⟨k, hk, hik, hkey⟩ : ∃ (k : Nat) (h : k < s.tmbs.length), i = k ∧ s.tmbs[k].key = r.key := by
    rcases hi with ⟨_, h⟩ | ⟨k, h, e1, e2⟩
    · obtain ⟨t, ht, hq⟩ := HX.out
      exact absurd hq (h t ht)
    · exact ⟨k, h, e1, e2⟩
  subst hik
  have HK := Lib.hid hkey; clear hkey hi
  have HF3 := Lib.hid (HF.out.kept hb3)
  have k3 := HF3.out.cs 3 _ rfl
  have f3 := HF3.out.fr 3
  simp only [Nat.zero_add] at k3
  have HS3 := Lib.hid (HS.out w3 hb3)
  have T3 : Hid (LTurn g A A2 m w w3) := Lib.hid ((LTurn.of b0).next hb3)
  have hs3 : w.heap.size < w3.heap.size := Nat.lt_of_lt_of_le s0 hb3.size
  have hwk : IntKind.i64.wrap ((k : Int) + 1) = (k : Int) + 1 := by rw [IntKind.wrap_i64]; omega
  go_upto_region 2 with fail
  go_wp2_with fail
  try rw [hwk]
  refine (deleteTmb_any base A2 c2 s.tmbs k w3 HF3.out.ot hk hl2).mono ?_
  rintro q w5 ⟨rfl, hO5, hg5⟩
  obtain ⟨zs, hzs⟩ : ∃ zs, zs = s.tmbs.eraseIdx k := ⟨_, rfl⟩
  rw [← hzs] at hO5 ⊢
  have HZ := Lib.hid hzs; clear hzs
  have L6 := Lib.hid (HF3.out.setTmbs hg5 hO5 (.inl rfl))
  have T6 := Lib.hid ((T3.out.step hg5 (fun i e => .inr (.inr (.inl e)))).setCell (p := ⟨g, 3, none⟩) (.inl rfl) (.slice A2 zs.length c2))
  have hg3 := hg5.block g HF3.out.gl (fun e => HF3.out.tg e.symm)
  have c5 := (World.cell?_of_block (a := ⟨g, 3, none⟩) hg3).trans k3
  have y5 := (World.frozen?_of_block (a := ⟨g, 3, none⟩) hg3).trans f3
  have HC5 := Lib.hid (HSC.out _ 3 (.slice A2 zs.length c2) (HSG.out w3 w5 (blk A2) hs3 hg5 (fun i e => by have := (HLw.out.toF.lt2 i e).2; omega) HS3.out))
  have hs5 : w.heap.size < w5.heap.size := Nat.lt_of_lt_of_le hs3 hg5.size
  clear k3 f3 hg3 HS3
  go_upto_region 3 with fail
  have hs6 : w.heap.size < (w5.setCell ⟨g, 3, none⟩ (.slice A2 zs.length c2)).heap.size := by rw [size_setCell]; exact hs5
  generalize w5.setCell ⟨g, 3, none⟩ (.slice A2 zs.length c2) = w6 at *
  have L7 := Lib.hid (L6.out.kept ((Below.refl _ w6).drew))
  have T7 := Lib.hid (T6.out.next ((Below.refl _ w6).drew))
  have hml := L7.out.mp.lt
  obtain ⟨w7, hrun, hm7, hg7⟩ := TxtFn.del (show TxtFn w6.drew m n (fun k => memB k (keysAll s)) from L7.out.mp) (k := r.key) (by unfold maxLen; omega) 0
  have k10 := L7.out.cs 10 _ rfl
  simp only [Nat.zero_add] at k10
  have q57 : w6.drew.cell? ⟨w.heap.size, 5, none⟩ = some (.string r.key) := HC5.out.2.2.2.2.2
  have hmw : m ≠ w.heap.size := by have := HLw.out.mp.lt; omega
  have q77 := (World.cell?_of_block (a := ⟨w.heap.size, 5, none⟩) (hg7.block w.heap.size (show w.heap.size < w6.heap.size from hs6) (fun e => hmw (by injection e with e; exact e.symm)))).trans q57
  have k77 := (World.cell?_of_block (a := ⟨g, 10, none⟩) (hg7.block g L7.out.gl (fun e => L7.out.mg (by injection e with e; exact e.symm)))).trans k10
  have L8 := LedF.setMap L7.out hg7 hm7 (by show n ≤ 8192 + s.sq.toNat; exact L7.out.nb)
  have T8 := T7.out.step hg7 (fun i e => .inr (.inr (.inr (.inl (by injection e with e; exact e.symm)))))
  have FIN : Hid (DoneL base g A A2 m w { s with tmbs := s.tmbs.filter fun t => decide (¬ t.key = r.key) } (.returned (.tuple #[])) w7) := Lib.hid (by
    have hz := HZ.out
    have e0 := erase_only (fun t : GTmb => t.key) r.key s.tmbs k hk HK.out (keysN_tmbs HN.out)
    rw [← hz] at e0
    have e1 : ({ s with tmbs := s.tmbs.filter fun t => decide (¬ t.key = r.key) } : GSt) = { s with tmbs := zs } := by rw [e0]
    rw [e1]
    exact ⟨rfl, A, c, A2, c2, n, L8.toLed (fun x => keys_purge (s := s) (s' := { s with tmbs := zs }) HN.out hk HK.out rfl hz x), T8, .inl rfl, .inl rfl⟩)
  clear L8 T8 hm7 HK HN HX
  refine wp_region_noPanic ?_
  refine wp_region_held_drew (S := fun w' => w'.cell? ⟨w.heap.size, 5, none⟩ = some (.string r.key) ∧ w'.cell? ⟨g, 10, none⟩ = some (.map (some m))) (by kernel_rfl) (by exact ⟨q57, k10⟩) (fun hHeld => ?_)
  refine kT 0 ?_
  go_frame
  refine kT 1 ?_
  go_frame
  refine kT 2 ?_
  go_frame
  refine kT 3 ?_
  go_frame
  refine kT 4 ?_
  go_frame
  refine kT 5 ?_
  go_frame
  refine wpAnyH_ready (rs := [6]) (by kernel_rfl) (by simp) ?_
  refine AllReadyH.cons (o := { dst := none, op := Op.call { callee := Callee.builtin Builtin.delete, args := #[Operand.tmp 25, Operand.tmp 27], argTypes := #[71, 9] }, type := 0, pos := "l06_manifest.go:318", after := #[{ on := 3, ground := Ground.data }, { on := 5, ground := Ground.data }], guard := none }) rfl (fun K hK => ?_) AllReadyH.nil
  go_simp
  refine hK.out _ _ (by exact ⟨q77, k77⟩) (fun hHeld => ?_)
  clear hK K
  try simp only [Act.put, List.setIfInBounds_toArray, List.set_cons_zero, List.set_cons_succ]
  refine wpAnyH_done (by kernel_rfl) ?_ _
  refine NoPanic.normal ?_
  clear hHeld
  go_wp2
  exact ⟨rfl, .tuple #[], by simp [results, Tryz.results106, go_sem], FIN.out⟩

theorem and_of7 {a b c d e f g : Prop} (h : a ∧ b ∧ c ∧ d ∧ e ∧ f ∧ g) : a ∧ b ∧ c ∧ d ∧ e ∧ f := ⟨h.1, h.2.1, h.2.2.1, h.2.2.2.1, h.2.2.2.2.1, h.2.2.2.2.2.1⟩

set_option maxRecDepth 100000 in
set_option maxHeartbeats 4000000 in
theorem retire_any (base g : Nat) (s : GSt) (A : Option Addr) (c : Nat) (A2 : Option Addr) (c2 m n : Nat) (w : World) (hL : Led base g w s A c A2 c2 m n) (r : GRec) (ht : 0 ≤ r.tier ∧ r.tier ≤ 2) (hks : r.key.size ≤ 1048576) (hl : s.ents.length ≤ 1048576) (hl2 : s.tmbs.length ≤ 1048576) (hf : firstE s.ents r.tier = some r.ent) :
    Calls Tryz.prog 103 #[.pointer (some ⟨g, 0, none⟩), .agg #[.int .i64 r.kind, .int .i64 r.tok, .int .i64 r.tier, .int .i64 r.beg, .int .i64 r.fin, .string r.key]] w (DoneL base g A A2 m w { s with ents := s.ents.eraseP (fun e => e.tier == r.tier), tmbs := s.tmbs ++ [⟨s.sq, r.key⟩], lo := s.lo.set r.tier r.fin }) := by
  obtain ⟨W, hW⟩ : ∃ W, W = w.alloc (.cells #[.int .i64 r.kind, .int .i64 r.tok, .int .i64 r.tier, .int .i64 r.beg, .int .i64 r.fin, .string r.key] 38) := ⟨_, rfl⟩
  have CR : Hid (Cells W w.heap.size 0 [.int .i64 r.kind, .int .i64 r.tok, .int .i64 r.tier, .int .i64 r.beg, .int .i64 r.fin, .string r.key]) := Lib.hid (by rw [hW]; exact Cells.new w _ _)
  have b0 : Below w.heap.size w W := by rw [hW]; exact bal (Below.refl _ _) _
  have s0 : w.heap.size < W.heap.size := by rw [hW]; simp
  have hgl := hL.gl
  have HF := Lib.hid (hL.toF.kept b0)
  have HLw := Lib.hid hL; clear hL
  have HS : Hid (∀ w', Below W.heap.size W w' → (fun w' => w'.cell? ⟨w.heap.size, 0, none⟩ = some (.int .i64 r.kind) ∧ w'.cell? ⟨w.heap.size, 1, none⟩ = some (.int .i64 r.tok) ∧ w'.cell? ⟨w.heap.size, 2, none⟩ = some (.int .i64 r.tier) ∧ w'.cell? ⟨w.heap.size, 3, none⟩ = some (.int .i64 r.beg) ∧ w'.cell? ⟨w.heap.size, 4, none⟩ = some (.int .i64 r.fin) ∧ w'.cell? ⟨w.heap.size, 5, none⟩ = some (.string r.key)) w') := Lib.hid (fun w' hb => by
    have h1 := CR.out.below hb s0
    exact ⟨by simpa using h1 0 _ rfl, by simpa using h1 1 _ rfl, by simpa using h1 2 _ rfl, by simpa using h1 3 _ rfl, by simpa using h1 4 _ rfl, by simpa using h1 5 _ rfl⟩)
  have HSC : Hid (∀ (w' : World) (k : Nat) (v : Value), (fun w' => w'.cell? ⟨w.heap.size, 0, none⟩ = some (.int .i64 r.kind) ∧ w'.cell? ⟨w.heap.size, 1, none⟩ = some (.int .i64 r.tok) ∧ w'.cell? ⟨w.heap.size, 2, none⟩ = some (.int .i64 r.tier) ∧ w'.cell? ⟨w.heap.size, 3, none⟩ = some (.int .i64 r.beg) ∧ w'.cell? ⟨w.heap.size, 4, none⟩ = some (.int .i64 r.fin) ∧ w'.cell? ⟨w.heap.size, 5, none⟩ = some (.string r.key)) w' → (fun w' => w'.cell? ⟨w.heap.size, 0, none⟩ = some (.int .i64 r.kind) ∧ w'.cell? ⟨w.heap.size, 1, none⟩ = some (.int .i64 r.tok) ∧ w'.cell? ⟨w.heap.size, 2, none⟩ = some (.int .i64 r.tier) ∧ w'.cell? ⟨w.heap.size, 3, none⟩ = some (.int .i64 r.beg) ∧ w'.cell? ⟨w.heap.size, 4, none⟩ = some (.int .i64 r.fin) ∧ w'.cell? ⟨w.heap.size, 5, none⟩ = some (.string r.key)) (w'.setCell ⟨g, k, none⟩ v)) := Lib.hid (fun w' k v h => by
    have hne : ∀ i, (w'.setCell ⟨g, k, none⟩ v).cell? ⟨w.heap.size, i, none⟩ = w'.cell? ⟨w.heap.size, i, none⟩ := fun i => World.cell?_setCell_other w' ⟨g, k, none⟩ ⟨w.heap.size, i, none⟩ v (fun e => by injection e with e1; omega)
    simp only [hne]
    exact h)
  have HSG : Hid (∀ (w' w2 : World) (row : Option Nat), w.heap.size < w'.heap.size → w'.grownBy w2 row → (∀ i, row = some i → i ≠ w.heap.size) → (fun w' => w'.cell? ⟨w.heap.size, 0, none⟩ = some (.int .i64 r.kind) ∧ w'.cell? ⟨w.heap.size, 1, none⟩ = some (.int .i64 r.tok) ∧ w'.cell? ⟨w.heap.size, 2, none⟩ = some (.int .i64 r.tier) ∧ w'.cell? ⟨w.heap.size, 3, none⟩ = some (.int .i64 r.beg) ∧ w'.cell? ⟨w.heap.size, 4, none⟩ = some (.int .i64 r.fin) ∧ w'.cell? ⟨w.heap.size, 5, none⟩ = some (.string r.key)) w' → (fun w' => w'.cell? ⟨w.heap.size, 0, none⟩ = some (.int .i64 r.kind) ∧ w'.cell? ⟨w.heap.size, 1, none⟩ = some (.int .i64 r.tok) ∧ w'.cell? ⟨w.heap.size, 2, none⟩ = some (.int .i64 r.tier) ∧ w'.cell? ⟨w.heap.size, 3, none⟩ = some (.int .i64 r.beg) ∧ w'.cell? ⟨w.heap.size, 4, none⟩ = some (.int .i64 r.fin) ∧ w'.cell? ⟨w.heap.size, 5, none⟩ = some (.string r.key)) w2) := Lib.hid (fun w' w2 row hs hg hi h => by
    have h0 : ∀ i, w2.cell? ⟨w.heap.size, i, none⟩ = w'.cell? ⟨w.heap.size, i, none⟩ := fun i => World.cell?_of_block (a := ⟨w.heap.size, i, none⟩) (hg.block w.heap.size hs (fun e => hi _ e.symm rfl))
    simp only [h0]
    exact h)
  have HFI := Lib.hid hf; clear hf
  have gl : g < W.heap.size := by omega
  have k2 := HF.out.cs 2 _ rfl
  simp only [Nat.zero_add] at k2
  have HE : Hid (∀ w', Below W.heap.size W w' → EntsAt w' w'.heap.size A s.ents) := Lib.hid (fun w' hb => ((HF.out.kept hb).toLed (fun _ => rfl)).st.1.1)
  have HW := Lib.hid hW; clear hW
  go_enter Tryz.func103, Tryz.ntmps103
  go_upto_region 1 with fail
  rw [← HW.out]
  refine wp_region_noPanic ?_
  refine wp_region_held_drew (S := fun w' => w'.cell? ⟨w.heap.size, 0, none⟩ = some (.int .i64 r.kind) ∧ w'.cell? ⟨w.heap.size, 1, none⟩ = some (.int .i64 r.tok) ∧ w'.cell? ⟨w.heap.size, 2, none⟩ = some (.int .i64 r.tier) ∧ w'.cell? ⟨w.heap.size, 3, none⟩ = some (.int .i64 r.beg) ∧ w'.cell? ⟨w.heap.size, 4, none⟩ = some (.int .i64 r.fin) ∧ w'.cell? ⟨w.heap.size, 5, none⟩ = some (.string r.key) ∧ w'.cell? ⟨g, 2, none⟩ = some (.slice A s.ents.length c)) (by kernel_rfl) (by exact (and_six (HS.out _ ((Below.refl _ W).drew)) k2)) (fun hHeld => ?_)
  refine kT 0 ?_
  go_frame
  refine kT 1 ?_
  go_frame
  refine kT 2 ?_
  go_frame
  refine kT 3 ?_
  go_frame
  refine kT 4 ?_
  go_frame
  refine kT 5 ?_
  go_frame
  refine wpAnyH_ready (rs := [6]) (by kernel_rfl) (by simp) ?_
  refine AllReadyH.cons (o := { dst := some 11, op := Op.call { callee := Callee.value (Operand.func 118), args := #[Operand.tmp 10], argTypes := #[38] }, type := 103, pos := "l06_manifest.go:309", after := #[{ on := 5, ground := Ground.data }], guard := none }) rfl (fun K hK => ?_) AllReadyH.nil
  go_simp
  refine (entry_any r W.drew).mono ?_
  rintro q w3 ⟨rfl, hb3'⟩
  have hb3 : Below W.heap.size W w3 := (Below.refl W.heap.size W).drew.trans hb3'
  refine hK.out _ _ (by exact (and_six (HS.out _ hb3) ((hb3.cell (p := ⟨g, 2, none⟩) gl).trans k2))) (fun hHeld => ?_)
  clear hK K hb3'
  try simp only [Act.put, List.setIfInBounds_toArray, List.set_cons_zero, List.set_cons_succ]
  refine wpAnyH_ready (rs := [7]) (by kernel_rfl) (by simp) ?_
  refine AllReadyH.cons (o := { dst := some 12, op := Op.call { callee := Callee.value (Operand.func 122), args := #[Operand.tmp 9, Operand.tmp 11], argTypes := #[31, 103] }, type := 3, pos := "l06_manifest.go:309", after := #[{ on := 4, ground := Ground.data }, { on := 6, ground := Ground.data }, { on := 6, ground := Ground.chain }], guard := none }) rfl (fun K hK => ?_) AllReadyH.nil
  go_simp
  refine (indexEnt_any A c s.ents r.ent w3.heap.size w3 (HE.out w3 hb3) (Nat.le_refl _) hl).mono ?_
  rintro q w4 ⟨i, hi, rfl, hb4'⟩
  have hb4 : Below W.heap.size W w4 := hb3.trans (hb4'.mono hb3.size)
  refine hK.out _ _ (by exact (and_six (HS.out _ hb4) ((hb4.cell (p := ⟨g, 2, none⟩) gl).trans k2))) (fun hHeld => ?_)
  clear hK K hb4' hb3
  try simp only [Act.put, List.setIfInBounds_toArray, List.set_cons_zero, List.set_cons_succ]
  refine kT 8 ?_
  go_frame
  refine wpAnyH_done (by kernel_rfl) ?_ _
  refine NoPanic.normal ?_
  obtain ⟨k, hk, hik, hke, hkf⟩ : ∃ (k : Nat) (h : k < s.ents.length), i = k ∧ s.ents[k] = r.ent ∧ ∀ j (hj : j < s.ents.length), j < k → s.ents[j] ≠ r.ent := by
    rcases hi with ⟨_, h⟩ | ⟨k, h, e1, e2, e3⟩
    · exact absurd rfl (h r.ent (List.mem_of_find?_eq_some HFI.out))
    · exact ⟨k, h, e1, e2, e3⟩
  subst hik
  clear hi hHeld
  have HER := Lib.hid (erase_first (fun e : GEnt => e.tier == r.tier) r.ent (List.find?_some (p := fun e : GEnt => e.tier == r.tier) HFI.out) s.ents k hk HFI.out hke hkf)
  have HK := Lib.hid hke; clear hke hkf HFI
  have HF4 := Lib.hid (HF.out.kept hb4)
  have k24 := (hb4.cell (p := ⟨g, 2, none⟩) gl).trans k2
  have f24 := HF4.out.fr 2
  have HS4 := Lib.hid (HS.out w4 hb4)
  have T4 : Hid (LTurn g A A2 m w w4) := Lib.hid ((LTurn.of b0).next hb4)
  have hs4 : w.heap.size < w4.heap.size := Nat.lt_of_lt_of_le s0 hb4.size
  have hwk : IntKind.i64.wrap ((k : Int) + 1) = (k : Int) + 1 := by rw [IntKind.wrap_i64]; omega
  go_upto_region 2 with fail
  go_wp2_with fail
  try rw [hwk]
  refine (deleteEnt_any base A c s.ents k w4 HF4.out.oe hk hl).mono ?_
  rintro q w5 ⟨rfl, hO5, hg5⟩
  obtain ⟨zs, hzs⟩ : ∃ zs, zs = s.ents.eraseIdx k := ⟨_, rfl⟩
  have hzl : zs.length ≤ 1048576 := by rw [hzs, List.length_eraseIdx_of_lt hk]; omega
  rw [← hzs] at hO5 ⊢
  have HZ := Lib.hid hzs; clear hzs
  have L5 := Lib.hid (HF4.out.setEnts hg5 hO5 (.inl rfl))
  have T5 := Lib.hid ((T4.out.step hg5 (fun i e => .inr (.inl e))).setCell (p := ⟨g, 2, none⟩) (.inl rfl) (.slice A zs.length c))
  have hg3 := hg5.block g HF4.out.gl (fun e => HF4.out.eg e.symm)
  have c5 := (World.cell?_of_block (a := ⟨g, 2, none⟩) hg3).trans k24
  have y5 := (World.frozen?_of_block (a := ⟨g, 2, none⟩) hg3).trans f24
  have HC5 := Lib.hid (HSC.out _ 2 (.slice A zs.length c) (HSG.out w4 w5 (blk A) hs4 hg5 (fun i e => by have := (HLw.out.toF.lt1 i e).2; omega) HS4.out))
  have hs5 : w.heap.size < w5.heap.size := Nat.lt_of_lt_of_le hs4 hg5.size
  clear k24 f24 hg3 HS4 k2 HF4 T4
  go_upto_region 3 with fail
  have hv0 : w.heap.size < (w5.setCell ⟨g, 2, none⟩ (.slice A zs.length c)).heap.size := by rw [size_setCell]; exact hs5
  clear c5 y5 hg5 hO5
  generalize w5.setCell ⟨g, 2, none⟩ (.slice A zs.length c) = V at *
  obtain ⟨zt, hzt⟩ : ∃ zt, zt = s.tmbs ++ [(⟨s.sq, r.key⟩ : GTmb)] := ⟨_, rfl⟩
  have HZ2 := Lib.hid hzt; clear hzt
  have gv : g < V.heap.size := L5.out.gl
  have k3 : V.cell? ⟨g, 3, none⟩ = some (.slice A2 s.tmbs.length c2) := by have := L5.out.cs 3 _ rfl; simp only [Nat.zero_add] at this; exact this
  have k0 : V.cell? ⟨g, 0, none⟩ = some (.int .i64 s.sq) := by have := L5.out.cs 0 _ rfl; simp only [Nat.zero_add] at this; exact this
  have hbd : Below V.heap.size V V.drew := (Below.refl _ _).drew
  have HSV : Hid (∀ w', Below V.heap.size V w' → (fun w' => w'.cell? ⟨w.heap.size, 0, none⟩ = some (.int .i64 r.kind) ∧ w'.cell? ⟨w.heap.size, 1, none⟩ = some (.int .i64 r.tok) ∧ w'.cell? ⟨w.heap.size, 2, none⟩ = some (.int .i64 r.tier) ∧ w'.cell? ⟨w.heap.size, 3, none⟩ = some (.int .i64 r.beg) ∧ w'.cell? ⟨w.heap.size, 4, none⟩ = some (.int .i64 r.fin) ∧ w'.cell? ⟨w.heap.size, 5, none⟩ = some (.string r.key) ∧ w'.cell? ⟨g, 0, none⟩ = some (.int .i64 s.sq)) w') := Lib.hid (fun w' hb => by
    have h1 : ∀ i, w'.cell? ⟨w.heap.size, i, none⟩ = V.cell? ⟨w.heap.size, i, none⟩ := fun i => hb.cell (p := ⟨w.heap.size, i, none⟩) hv0
    have h2 := (hb.cell (p := ⟨g, 0, none⟩) gv).trans k0
    have h3 := HC5.out
    simp only [h1]
    exact and_six h3 h2)
  go_cut [] (fun wx => ∃ (A5 : Option Addr) (k5 : Nat), Hid (LedF base g wx { s with ents := zs, tmbs := zt } A c A5 k5 m n (fun k => memB k (keysAll s))) ∧ Hid (LTurn g A A2 m w wx) ∧ Hid (blk A5 = blk A2 ∨ ∀ b, blk A5 = some b → w.heap.size ≤ b) ∧ Hid ((fun w' => w'.cell? ⟨w.heap.size, 0, none⟩ = some (.int .i64 r.kind) ∧ w'.cell? ⟨w.heap.size, 1, none⟩ = some (.int .i64 r.tok) ∧ w'.cell? ⟨w.heap.size, 2, none⟩ = some (.int .i64 r.tier) ∧ w'.cell? ⟨w.heap.size, 3, none⟩ = some (.int .i64 r.beg) ∧ w'.cell? ⟨w.heap.size, 4, none⟩ = some (.int .i64 r.fin) ∧ w'.cell? ⟨w.heap.size, 5, none⟩ = some (.string r.key)) wx) ∧ w.heap.size < wx.heap.size)
  case first =>
    refine wp_region_noPanic ?_
    refine wp_region_held_drew (S := fun w' => w'.cell? ⟨w.heap.size, 0, none⟩ = some (.int .i64 r.kind) ∧ w'.cell? ⟨w.heap.size, 1, none⟩ = some (.int .i64 r.tok) ∧ w'.cell? ⟨w.heap.size, 2, none⟩ = some (.int .i64 r.tier) ∧ w'.cell? ⟨w.heap.size, 3, none⟩ = some (.int .i64 r.beg) ∧ w'.cell? ⟨w.heap.size, 4, none⟩ = some (.int .i64 r.fin) ∧ w'.cell? ⟨w.heap.size, 5, none⟩ = some (.string r.key) ∧ w'.cell? ⟨g, 0, none⟩ = some (.int .i64 s.sq)) (by kernel_rfl) (by exact HSV.out _ hbd) (fun hHeld => ?_)
    refine kT 0 ?_
    go_frame
    refine kT 1 ?_
    go_frame
    refine kT 2 ?_
    go_frame
    refine kT 3 ?_
    go_frame
    refine kT 4 ?_
    go_frame
    refine kT 6 ?_
    go_frame
    refine kT 7 ?_
    go_frame
    refine kT 8 ?_
    go_frame
    refine kT 9 ?_
    go_frame
    refine kT 10 ?_
    go_frame
    refine kT 11 ?_
    go_frame
    refine kT 12 ?_
    go_frame
    refine kT 13 ?_
    go_frame
    refine wpAnyH_ready (rs := [5, 14]) (by kernel_rfl) (by simp) ?_
    refine AllReadyH.cons (o := { dst := some 31, op := Op.load 32 (Operand.tmp 30), type := 32, pos := "l06_manifest.go:311", after := #[{ on := 4, ground := Ground.data }], guard := none }) rfl (fun K hK => ?_) (AllReadyH.cons (o := { dst := some 40, op := Op.buildSlice 32 1 #[(0, Operand.tmp 39)], type := 32, pos := "l06_manifest.go:311", after := #[{ on := 13, ground := Ground.data }], guard := none }) rfl (fun K hK => ?_) AllReadyH.nil)
    · have k3x := (hbd.cell (p := ⟨g, 3, none⟩) gv).trans k3
      go_simp
      refine hK.out _ _ (by exact HSV.out _ hbd) (fun hHeld => ?_)
      clear hK K
      try simp only [Act.put, List.setIfInBounds_toArray, List.set_cons_zero, List.set_cons_succ]
      clear k3x
      refine wpAnyH_ready (rs := [14]) (by kernel_rfl) (by simp) ?_
      refine AllReadyH.cons (o := { dst := some 40, op := Op.buildSlice 32 1 #[(0, Operand.tmp 39)], type := 32, pos := "l06_manifest.go:311", after := #[{ on := 13, ground := Ground.data }], guard := none }) rfl (fun K hK => ?_) AllReadyH.nil
      go_simp
      have hb4 : Below V.heap.size V ((V.alloc (.cells #[.int .i64 s.sq, .string r.key] 108)).drew) := ((Below.refl V.heap.size V).alloc (Nat.le_refl _) _).drew
      refine hK.out _ _ (by exact HSV.out _ hb4) (fun hHeld => ?_)
      clear hK K
      try simp only [Act.put, List.setIfInBounds_toArray, List.set_cons_zero, List.set_cons_succ]
      have O4 : OwnSl GTmb.vals 2 108 base ((V.alloc (.cells #[.int .i64 s.sq, .string r.key] 108)).drew) (.slice A2 s.tmbs.length c2) s.tmbs := (L5.out.kept hb4).ot
      have N4 : Sl GTmb.vals 2 ((V.alloc (.cells #[.int .i64 s.sq, .string r.key] 108)).drew) (V.heap.size + 1) (some ⟨V.heap.size, 0, none⟩) [(⟨s.sq, r.key⟩ : GTmb)] := Sl.below (new_tmbv V ⟨s.sq, r.key⟩ 108) ((Below.refl (V.heap.size + 1) (V.alloc (.cells #[.int .i64 s.sq, .string r.key] 108))).drew) (Nat.le_refl _)
      refine wpAnyH_ready (rs := [15]) (by kernel_rfl) (by simp) ?_
      refine AllReadyH.cons (o := { dst := some 41, op := Op.call { callee := Callee.builtin Builtin.append, args := #[Operand.tmp 31, Operand.tmp 40], argTypes := #[32, 32] }, type := 32, pos := "l06_manifest.go:311", after := #[{ on := 5, ground := Ground.data }, { on := 14, ground := Ground.data }], guard := none }) rfl (fun K hK => ?_) AllReadyH.nil
      refine step_append_sl2 GTmb.vals 2 24 (fun _ => rfl) tmb_oneC 32 108 _ infoTmb rfl (by omega) Tryz.underlying32 rfl _ _ rfl base s.tmbs [(⟨s.sq, r.key⟩ : GTmb)] (.slice A2 s.tmbs.length c2) rfl O4 (some ⟨V.heap.size, 0, none⟩) 1 (V.heap.size + 1) rfl N4 (by simp [maxLen]; omega) (by simp; omega) (by have := L5.out.bl; have := hb4.size; omega) ?_
      intro v5 w5 hO5 hg5 hv5
      rw [← HZ2.out] at hO5
      obtain ⟨A5, k5, rfl⟩ := hO5.form
      rw [ownBlock_blk] at hg5
      rw [ownBlock_blk, ownBlock_blk] at hv5
      have h4z : V.heap.size < ((V.alloc (.cells #[.int .i64 s.sq, .string r.key] 108)).drew).heap.size := by show V.heap.size < (V.alloc (.cells #[.int .i64 s.sq, .string r.key] 108)).heap.size; simp
      have hA6 : blk A5 = blk A2 ∨ ∀ b, blk A5 = some b → w.heap.size ≤ b := by rcases hv5 with h | h; (· exact .inl h); (· exact .inr (fun b e => by rw [h] at e; injection e with e; omega))
      have hA6' : blk A5 = blk A2 ∨ ∀ b, blk A5 = some b → ((V.alloc (.cells #[.int .i64 s.sq, .string r.key] 108)).drew).heap.size ≤ b := by rcases hv5 with h | h; (· exact .inl h); (· exact .inr (fun b e => by rw [h] at e; injection e with e; omega))
      have HSR5 := HSG.out _ w5 (blk A2) (Nat.lt_trans hv0 h4z) hg5 (fun i e => by have := (HLw.out.toF.lt2 i e).2; omega) (HSV.out _ hb4 |> fun h => and_of7 h)
      have HS5 : (fun w' => w'.cell? ⟨w.heap.size, 0, none⟩ = some (.int .i64 r.kind) ∧ w'.cell? ⟨w.heap.size, 1, none⟩ = some (.int .i64 r.tok) ∧ w'.cell? ⟨w.heap.size, 2, none⟩ = some (.int .i64 r.tier) ∧ w'.cell? ⟨w.heap.size, 3, none⟩ = some (.int .i64 r.beg) ∧ w'.cell? ⟨w.heap.size, 4, none⟩ = some (.int .i64 r.fin) ∧ w'.cell? ⟨w.heap.size, 5, none⟩ = some (.string r.key) ∧ w'.cell? ⟨g, 0, none⟩ = some (.int .i64 s.sq)) w5 := and_six HSR5 ((World.cell?_of_block (a := ⟨g, 0, none⟩) (hg5.block g (L5.out.kept hb4).gl (fun e => L5.out.tg e.symm))).trans ((hb4.cell (p := ⟨g, 0, none⟩) gv).trans k0))
      refine hK.out _ _ (by exact HS5) (fun hHeld => ?_)
      clear hK K
      try simp only [Act.put, List.setIfInBounds_toArray, List.set_cons_zero, List.set_cons_succ]
      refine kT 16 ?_
      go_frame
      refine kT 17 ?_
      go_frame
      refine kT 18 ?_
      go_frame
      have L6 := LedF.setTmbs (L5.out.kept hb4) hg5 hO5 hA6'
      have c5 := (World.cell?_of_block (a := ⟨g, 3, none⟩) (hg5.block g (L5.out.kept hb4).gl (fun e => L5.out.tg e.symm))).trans ((hb4.cell (p := ⟨g, 3, none⟩) gv).trans k3)
      have y5 := (World.frozen?_of_block (a := ⟨g, 3, none⟩) (hg5.block g (L5.out.kept hb4).gl (fun e => L5.out.tg e.symm))).trans ((hb4.frozen (p := ⟨g, 3, none⟩) gv).trans (L5.out.fr 3))
      have T6 : LTurn g A A2 m w (w5.setCell ⟨g, 3, none⟩ (.slice A5 zt.length k5)) := ((T5.out.next hb4).step hg5 (fun i e => .inr (.inr (.inl e)))).setCell (p := ⟨g, 3, none⟩) (.inl rfl) _
      have HC6 : Hid ((fun w' => w'.cell? ⟨w.heap.size, 0, none⟩ = some (.int .i64 r.kind) ∧ w'.cell? ⟨w.heap.size, 1, none⟩ = some (.int .i64 r.tok) ∧ w'.cell? ⟨w.heap.size, 2, none⟩ = some (.int .i64 r.tier) ∧ w'.cell? ⟨w.heap.size, 3, none⟩ = some (.int .i64 r.beg) ∧ w'.cell? ⟨w.heap.size, 4, none⟩ = some (.int .i64 r.fin) ∧ w'.cell? ⟨w.heap.size, 5, none⟩ = some (.string r.key)) (w5.setCell ⟨g, 3, none⟩ (.slice A5 zt.length k5))) := Lib.hid (HSC.out _ _ _ HSR5)
      have HC7 : Hid ((fun w' => w'.cell? ⟨w.heap.size, 0, none⟩ = some (.int .i64 r.kind) ∧ w'.cell? ⟨w.heap.size, 1, none⟩ = some (.int .i64 r.tok) ∧ w'.cell? ⟨w.heap.size, 2, none⟩ = some (.int .i64 r.tier) ∧ w'.cell? ⟨w.heap.size, 3, none⟩ = some (.int .i64 r.beg) ∧ w'.cell? ⟨w.heap.size, 4, none⟩ = some (.int .i64 r.fin) ∧ w'.cell? ⟨w.heap.size, 5, none⟩ = some (.string r.key) ∧ w'.cell? ⟨g, 0, none⟩ = some (.int .i64 s.sq)) (w5.setCell ⟨g, 3, none⟩ (.slice A5 zt.length k5))) := Lib.hid (and_six HC6.out ((World.cell?_setCell_other w5 ⟨g, 3, none⟩ ⟨g, 0, none⟩ (.slice A5 zt.length k5) (fun e => by injection e with e1 e2; omega)).trans HS5.2.2.2.2.2.2))
      refine wpAnyH_ready (rs := [19]) (by kernel_rfl) (by simp) ?_
      refine AllReadyH.cons (o := { dst := none, op := Op.store 32 (Operand.tmp 44) (Operand.tmp 41), type := 0, pos := "l06_manifest.go:311", after := #[{ on := 18, ground := Ground.data }, { on := 15, ground := Ground.data }, { on := 15, ground := Ground.chain }, { on := 0, ground := Ground.phase }, { on := 1, ground := Ground.phase }, { on := 2, ground := Ground.phase }, { on := 3, ground := Ground.phase }, { on := 4, ground := Ground.phase }, { on := 5, ground := Ground.phase }, { on := 6, ground := Ground.phase }, { on := 7, ground := Ground.phase }, { on := 8, ground := Ground.phase }, { on := 9, ground := Ground.phase }, { on := 10, ground := Ground.phase }, { on := 11, ground := Ground.phase }, { on := 12, ground := Ground.phase }, { on := 13, ground := Ground.phase }, { on := 14, ground := Ground.phase }, { on := 15, ground := Ground.phase }], guard := none }) rfl (fun K hK => ?_) AllReadyH.nil
      go_simp
      refine hK.out _ _ (by exact HC7.out) (fun hHeld => ?_)
      clear hK K
      try simp only [Act.put, List.setIfInBounds_toArray, List.set_cons_zero, List.set_cons_succ]
      refine wpAnyH_done (by kernel_rfl) ?_ _
      refine NoPanic.normal ?_
      go_wp2_with fail
      go_meet
      exact ⟨A5, k5, Lib.hid L6, Lib.hid T6, Lib.hid hA6, HC6, by rw [size_setCell]; have := hg5.size; omega⟩
    · go_simp
      have hb4 : Below V.heap.size V ((V.alloc (.cells #[.int .i64 s.sq, .string r.key] 108)).drew) := ((Below.refl V.heap.size V).alloc (Nat.le_refl _) _).drew
      refine hK.out _ _ (by exact HSV.out _ hb4) (fun hHeld => ?_)
      clear hK K
      try simp only [Act.put, List.setIfInBounds_toArray, List.set_cons_zero, List.set_cons_succ]
      refine wpAnyH_ready (rs := [5]) (by kernel_rfl) (by simp) ?_
      refine AllReadyH.cons (o := { dst := some 31, op := Op.load 32 (Operand.tmp 30), type := 32, pos := "l06_manifest.go:311", after := #[{ on := 4, ground := Ground.data }], guard := none }) rfl (fun K hK => ?_) AllReadyH.nil
      have k3x := (hb4.cell (p := ⟨g, 3, none⟩) gv).trans k3
      go_simp
      refine hK.out _ _ (by exact HSV.out _ hb4) (fun hHeld => ?_)
      clear hK K
      try simp only [Act.put, List.setIfInBounds_toArray, List.set_cons_zero, List.set_cons_succ]
      clear k3x
      have O4 : OwnSl GTmb.vals 2 108 base ((V.alloc (.cells #[.int .i64 s.sq, .string r.key] 108)).drew) (.slice A2 s.tmbs.length c2) s.tmbs := (L5.out.kept hb4).ot
      have N4 : Sl GTmb.vals 2 ((V.alloc (.cells #[.int .i64 s.sq, .string r.key] 108)).drew) (V.heap.size + 1) (some ⟨V.heap.size, 0, none⟩) [(⟨s.sq, r.key⟩ : GTmb)] := Sl.below (new_tmbv V ⟨s.sq, r.key⟩ 108) ((Below.refl (V.heap.size + 1) (V.alloc (.cells #[.int .i64 s.sq, .string r.key] 108))).drew) (Nat.le_refl _)
      refine wpAnyH_ready (rs := [15]) (by kernel_rfl) (by simp) ?_
      refine AllReadyH.cons (o := { dst := some 41, op := Op.call { callee := Callee.builtin Builtin.append, args := #[Operand.tmp 31, Operand.tmp 40], argTypes := #[32, 32] }, type := 32, pos := "l06_manifest.go:311", after := #[{ on := 5, ground := Ground.data }, { on := 14, ground := Ground.data }], guard := none }) rfl (fun K hK => ?_) AllReadyH.nil
      refine step_append_sl2 GTmb.vals 2 24 (fun _ => rfl) tmb_oneC 32 108 _ infoTmb rfl (by omega) Tryz.underlying32 rfl _ _ rfl base s.tmbs [(⟨s.sq, r.key⟩ : GTmb)] (.slice A2 s.tmbs.length c2) rfl O4 (some ⟨V.heap.size, 0, none⟩) 1 (V.heap.size + 1) rfl N4 (by simp [maxLen]; omega) (by simp; omega) (by have := L5.out.bl; have := hb4.size; omega) ?_
      intro v5 w5 hO5 hg5 hv5
      rw [← HZ2.out] at hO5
      obtain ⟨A5, k5, rfl⟩ := hO5.form
      rw [ownBlock_blk] at hg5
      rw [ownBlock_blk, ownBlock_blk] at hv5
      have h4z : V.heap.size < ((V.alloc (.cells #[.int .i64 s.sq, .string r.key] 108)).drew).heap.size := by show V.heap.size < (V.alloc (.cells #[.int .i64 s.sq, .string r.key] 108)).heap.size; simp
      have hA6 : blk A5 = blk A2 ∨ ∀ b, blk A5 = some b → w.heap.size ≤ b := by rcases hv5 with h | h; (· exact .inl h); (· exact .inr (fun b e => by rw [h] at e; injection e with e; omega))
      have hA6' : blk A5 = blk A2 ∨ ∀ b, blk A5 = some b → ((V.alloc (.cells #[.int .i64 s.sq, .string r.key] 108)).drew).heap.size ≤ b := by rcases hv5 with h | h; (· exact .inl h); (· exact .inr (fun b e => by rw [h] at e; injection e with e; omega))
      have HSR5 := HSG.out _ w5 (blk A2) (Nat.lt_trans hv0 h4z) hg5 (fun i e => by have := (HLw.out.toF.lt2 i e).2; omega) (HSV.out _ hb4 |> fun h => and_of7 h)
      have HS5 : (fun w' => w'.cell? ⟨w.heap.size, 0, none⟩ = some (.int .i64 r.kind) ∧ w'.cell? ⟨w.heap.size, 1, none⟩ = some (.int .i64 r.tok) ∧ w'.cell? ⟨w.heap.size, 2, none⟩ = some (.int .i64 r.tier) ∧ w'.cell? ⟨w.heap.size, 3, none⟩ = some (.int .i64 r.beg) ∧ w'.cell? ⟨w.heap.size, 4, none⟩ = some (.int .i64 r.fin) ∧ w'.cell? ⟨w.heap.size, 5, none⟩ = some (.string r.key) ∧ w'.cell? ⟨g, 0, none⟩ = some (.int .i64 s.sq)) w5 := and_six HSR5 ((World.cell?_of_block (a := ⟨g, 0, none⟩) (hg5.block g (L5.out.kept hb4).gl (fun e => L5.out.tg e.symm))).trans ((hb4.cell (p := ⟨g, 0, none⟩) gv).trans k0))
      refine hK.out _ _ (by exact HS5) (fun hHeld => ?_)
      clear hK K
      try simp only [Act.put, List.setIfInBounds_toArray, List.set_cons_zero, List.set_cons_succ]
      refine kT 16 ?_
      go_frame
      refine kT 17 ?_
      go_frame
      refine kT 18 ?_
      go_frame
      have L6 := LedF.setTmbs (L5.out.kept hb4) hg5 hO5 hA6'
      have c5 := (World.cell?_of_block (a := ⟨g, 3, none⟩) (hg5.block g (L5.out.kept hb4).gl (fun e => L5.out.tg e.symm))).trans ((hb4.cell (p := ⟨g, 3, none⟩) gv).trans k3)
      have y5 := (World.frozen?_of_block (a := ⟨g, 3, none⟩) (hg5.block g (L5.out.kept hb4).gl (fun e => L5.out.tg e.symm))).trans ((hb4.frozen (p := ⟨g, 3, none⟩) gv).trans (L5.out.fr 3))
      have T6 : LTurn g A A2 m w (w5.setCell ⟨g, 3, none⟩ (.slice A5 zt.length k5)) := ((T5.out.next hb4).step hg5 (fun i e => .inr (.inr (.inl e)))).setCell (p := ⟨g, 3, none⟩) (.inl rfl) _
      have HC6 : Hid ((fun w' => w'.cell? ⟨w.heap.size, 0, none⟩ = some (.int .i64 r.kind) ∧ w'.cell? ⟨w.heap.size, 1, none⟩ = some (.int .i64 r.tok) ∧ w'.cell? ⟨w.heap.size, 2, none⟩ = some (.int .i64 r.tier) ∧ w'.cell? ⟨w.heap.size, 3, none⟩ = some (.int .i64 r.beg) ∧ w'.cell? ⟨w.heap.size, 4, none⟩ = some (.int .i64 r.fin) ∧ w'.cell? ⟨w.heap.size, 5, none⟩ = some (.string r.key)) (w5.setCell ⟨g, 3, none⟩ (.slice A5 zt.length k5))) := Lib.hid (HSC.out _ _ _ HSR5)
      have HC7 : Hid ((fun w' => w'.cell? ⟨w.heap.size, 0, none⟩ = some (.int .i64 r.kind) ∧ w'.cell? ⟨w.heap.size, 1, none⟩ = some (.int .i64 r.tok) ∧ w'.cell? ⟨w.heap.size, 2, none⟩ = some (.int .i64 r.tier) ∧ w'.cell? ⟨w.heap.size, 3, none⟩ = some (.int .i64 r.beg) ∧ w'.cell? ⟨w.heap.size, 4, none⟩ = some (.int .i64 r.fin) ∧ w'.cell? ⟨w.heap.size, 5, none⟩ = some (.string r.key) ∧ w'.cell? ⟨g, 0, none⟩ = some (.int .i64 s.sq)) (w5.setCell ⟨g, 3, none⟩ (.slice A5 zt.length k5))) := Lib.hid (and_six HC6.out ((World.cell?_setCell_other w5 ⟨g, 3, none⟩ ⟨g, 0, none⟩ (.slice A5 zt.length k5) (fun e => by injection e with e1 e2; omega)).trans HS5.2.2.2.2.2.2))
      refine wpAnyH_ready (rs := [19]) (by kernel_rfl) (by simp) ?_
      refine AllReadyH.cons (o := { dst := none, op := Op.store 32 (Operand.tmp 44) (Operand.tmp 41), type := 0, pos := "l06_manifest.go:311", after := #[{ on := 18, ground := Ground.data }, { on := 15, ground := Ground.data }, { on := 15, ground := Ground.chain }, { on := 0, ground := Ground.phase }, { on := 1, ground := Ground.phase }, { on := 2, ground := Ground.phase }, { on := 3, ground := Ground.phase }, { on := 4, ground := Ground.phase }, { on := 5, ground := Ground.phase }, { on := 6, ground := Ground.phase }, { on := 7, ground := Ground.phase }, { on := 8, ground := Ground.phase }, { on := 9, ground := Ground.phase }, { on := 10, ground := Ground.phase }, { on := 11, ground := Ground.phase }, { on := 12, ground := Ground.phase }, { on := 13, ground := Ground.phase }, { on := 14, ground := Ground.phase }, { on := 15, ground := Ground.phase }], guard := none }) rfl (fun K hK => ?_) AllReadyH.nil
      go_simp
      refine hK.out _ _ (by exact HC7.out) (fun hHeld => ?_)
      clear hK K
      try simp only [Act.put, List.setIfInBounds_toArray, List.set_cons_zero, List.set_cons_succ]
      refine wpAnyH_done (by kernel_rfl) ?_ _
      refine NoPanic.normal ?_
      go_wp2_with fail
      go_meet
      exact ⟨A5, k5, Lib.hid L6, Lib.hid T6, Lib.hid hA6, HC6, by rw [size_setCell]; have := hg5.size; omega⟩
  case rest =>
    obtain ⟨A5, k5, L6, T6, hA6, HC, hlt⟩ := hcut
    clear CR HS HSG HSV L5 T5 k0 k3 hbd hv0 gv HC5
    clear V
    obtain ⟨kd, tk, ti, bg, fi, ky⟩ := r
    dsimp only at *
    rcases (show ti = 0 ∨ ti = 1 ∨ ti = 2 by omega) with rfl | rfl | rfl
    · go_upto_region 4 with fail
      have kx := L6.out.cs 4 _ rfl
      have fx := L6.out.fr 4
      simp only [Nat.zero_add] at kx
      have L7 := Lib.hid (LedF.kept (L6.out.cell (s' := { sq := s.sq, fe := s.fe, ents := zs, tmbs := zt, lo := ⟨fi, s.lo.b, s.lo.c⟩, hi := s.hi }) 4 (by omega) (.int .i64 fi) rfl rfl rfl (Nat.le_refl _)) ((Below.refl _ _).drew))
      have T7 := Lib.hid ((T6.out.setCell (p := ⟨g, 4, none⟩) (.inl rfl) (.int .i64 fi)).next ((Below.refl _ _).drew))
      have HC7 : Hid ((fun w' => w'.cell? ⟨w.heap.size, 0, none⟩ = some (.int .i64 kd) ∧ w'.cell? ⟨w.heap.size, 1, none⟩ = some (.int .i64 tk) ∧ w'.cell? ⟨w.heap.size, 2, none⟩ = some (.int .i64 0) ∧ w'.cell? ⟨w.heap.size, 3, none⟩ = some (.int .i64 bg) ∧ w'.cell? ⟨w.heap.size, 4, none⟩ = some (.int .i64 fi) ∧ w'.cell? ⟨w.heap.size, 5, none⟩ = some (.string ky)) (wc.setCell ⟨g, 4, none⟩ (.int .i64 fi)).drew) := Lib.hid (HSC.out wc 4 (.int .i64 fi) HC.out)
      refine wp_region_noPanic ?_
      refine wp_region_held_drew (S := fun w' => w'.cell? ⟨w.heap.size, 0, none⟩ = some (.int .i64 kd) ∧ w'.cell? ⟨w.heap.size, 1, none⟩ = some (.int .i64 tk) ∧ w'.cell? ⟨w.heap.size, 2, none⟩ = some (.int .i64 0) ∧ w'.cell? ⟨w.heap.size, 3, none⟩ = some (.int .i64 bg) ∧ w'.cell? ⟨w.heap.size, 4, none⟩ = some (.int .i64 fi) ∧ w'.cell? ⟨w.heap.size, 5, none⟩ = some (.string ky)) (by kernel_rfl) (by exact HC.out) (fun hHeld => ?_)
      refine kT 0 ?_
      go_frame
      refine kT 1 ?_
      go_frame
      refine kT 2 ?_
      go_frame
      refine kT 3 ?_
      go_frame
      refine kT 4 ?_
      go_frame
      refine kT 5 ?_
      go_frame
      refine kT 6 ?_
      go_frame
      refine kT 7 ?_
      go_frame
      refine kT 8 ?_
      go_frame
      refine wpAnyH_ready (rs := [9]) (by kernel_rfl) (by simp) ?_
      refine AllReadyH.cons (o := { dst := none, op := Op.store 3 (Operand.tmp 53) (Operand.tmp 49), type := 0, pos := "l06_manifest.go:312", after := #[{ on := 8, ground := Ground.data }, { on := 4, ground := Ground.data }, { on := 0, ground := Ground.phase }, { on := 1, ground := Ground.phase }, { on := 2, ground := Ground.phase }, { on := 3, ground := Ground.phase }, { on := 4, ground := Ground.phase }], guard := none }) rfl (fun K hK => ?_) AllReadyH.nil
      go_simp
      refine hK.out _ _ (by exact HC7.out) (fun hHeld => ?_)
      clear hK K
      try simp only [Act.put, List.setIfInBounds_toArray, List.set_cons_zero, List.set_cons_succ]
      refine wpAnyH_done (by kernel_rfl) ?_ _
      refine NoPanic.normal ?_
      clear hHeld kx fx L6 T6 HC
      have h6l : w.heap.size < ((wc.setCell ⟨g, 4, none⟩ (.int .i64 fi)).drew).heap.size := by show w.heap.size < (wc.setCell ⟨g, 4, none⟩ (.int .i64 fi)).heap.size; rw [size_setCell]; exact hlt
      generalize (wc.setCell ⟨g, 4, none⟩ (.int .i64 fi)).drew = w6 at *
      have FIN : Hid (DoneL base g A A2 m w { s with ents := s.ents.eraseP (fun e => e.tier == 0), tmbs := s.tmbs ++ [⟨s.sq, ky⟩], lo := s.lo.set 0 fi } (.returned (.tuple #[])) w6) := Lib.hid (by
        have hz := HZ.out
        have hz2 := HZ2.out
        have he := HER.out
        have e1 : ({ s with ents := s.ents.eraseP (fun e => e.tier == 0), tmbs := s.tmbs ++ [⟨s.sq, ky⟩], lo := s.lo.set 0 fi } : GSt) = { sq := s.sq, fe := s.fe, ents := zs, tmbs := zt, lo := ⟨fi, s.lo.b, s.lo.c⟩, hi := s.hi } := by rw [← he, ← hz, ← hz2]; rfl
        rw [e1]
        exact ⟨rfl, A, c, A5, k5, n, L7.out.toLed (fun x => keys_retire (s := s) (s' := { sq := s.sq, fe := s.fe, ents := zs, tmbs := zt, lo := ⟨fi, s.lo.b, s.lo.c⟩, hi := s.hi }) hk (by rw [HK.out]; rfl) hz hz2 x), T7.out, .inl rfl, hA6.out⟩)
      go_wp2
      exact ⟨rfl, .tuple #[], by simp [results, Tryz.results103, go_sem], FIN.out⟩
    · go_upto_region 4 with fail
      have kx := L6.out.cs 5 _ rfl
      have fx := L6.out.fr 5
      simp only [Nat.zero_add] at kx
      have L7 := Lib.hid (LedF.kept (L6.out.cell (s' := { sq := s.sq, fe := s.fe, ents := zs, tmbs := zt, lo := ⟨s.lo.a, fi, s.lo.c⟩, hi := s.hi }) 5 (by omega) (.int .i64 fi) rfl rfl rfl (Nat.le_refl _)) ((Below.refl _ _).drew))
      have T7 := Lib.hid ((T6.out.setCell (p := ⟨g, 5, none⟩) (.inl rfl) (.int .i64 fi)).next ((Below.refl _ _).drew))
      have HC7 : Hid ((fun w' => w'.cell? ⟨w.heap.size, 0, none⟩ = some (.int .i64 kd) ∧ w'.cell? ⟨w.heap.size, 1, none⟩ = some (.int .i64 tk) ∧ w'.cell? ⟨w.heap.size, 2, none⟩ = some (.int .i64 1) ∧ w'.cell? ⟨w.heap.size, 3, none⟩ = some (.int .i64 bg) ∧ w'.cell? ⟨w.heap.size, 4, none⟩ = some (.int .i64 fi) ∧ w'.cell? ⟨w.heap.size, 5, none⟩ = some (.string ky)) (wc.setCell ⟨g, 5, none⟩ (.int .i64 fi)).drew) := Lib.hid (HSC.out wc 5 (.int .i64 fi) HC.out)
      refine wp_region_noPanic ?_
      refine wp_region_held_drew (S := fun w' => w'.cell? ⟨w.heap.size, 0, none⟩ = some (.int .i64 kd) ∧ w'.cell? ⟨w.heap.size, 1, none⟩ = some (.int .i64 tk) ∧ w'.cell? ⟨w.heap.size, 2, none⟩ = some (.int .i64 1) ∧ w'.cell? ⟨w.heap.size, 3, none⟩ = some (.int .i64 bg) ∧ w'.cell? ⟨w.heap.size, 4, none⟩ = some (.int .i64 fi) ∧ w'.cell? ⟨w.heap.size, 5, none⟩ = some (.string ky)) (by kernel_rfl) (by exact HC.out) (fun hHeld => ?_)
      refine kT 0 ?_
      go_frame
      refine kT 1 ?_
      go_frame
      refine kT 2 ?_
      go_frame
      refine kT 3 ?_
      go_frame
      refine kT 4 ?_
      go_frame
      refine kT 5 ?_
      go_frame
      refine kT 6 ?_
      go_frame
      refine kT 7 ?_
      go_frame
      refine kT 8 ?_
      go_frame
      refine wpAnyH_ready (rs := [9]) (by kernel_rfl) (by simp) ?_
      refine AllReadyH.cons (o := { dst := none, op := Op.store 3 (Operand.tmp 53) (Operand.tmp 49), type := 0, pos := "l06_manifest.go:312", after := #[{ on := 8, ground := Ground.data }, { on := 4, ground := Ground.data }, { on := 0, ground := Ground.phase }, { on := 1, ground := Ground.phase }, { on := 2, ground := Ground.phase }, { on := 3, ground := Ground.phase }, { on := 4, ground := Ground.phase }], guard := none }) rfl (fun K hK => ?_) AllReadyH.nil
      go_simp
      refine hK.out _ _ (by exact HC7.out) (fun hHeld => ?_)
      clear hK K
      try simp only [Act.put, List.setIfInBounds_toArray, List.set_cons_zero, List.set_cons_succ]
      refine wpAnyH_done (by kernel_rfl) ?_ _
      refine NoPanic.normal ?_
      clear hHeld kx fx L6 T6 HC
      have h6l : w.heap.size < ((wc.setCell ⟨g, 5, none⟩ (.int .i64 fi)).drew).heap.size := by show w.heap.size < (wc.setCell ⟨g, 5, none⟩ (.int .i64 fi)).heap.size; rw [size_setCell]; exact hlt
      generalize (wc.setCell ⟨g, 5, none⟩ (.int .i64 fi)).drew = w6 at *
      have FIN : Hid (DoneL base g A A2 m w { s with ents := s.ents.eraseP (fun e => e.tier == 1), tmbs := s.tmbs ++ [⟨s.sq, ky⟩], lo := s.lo.set 1 fi } (.returned (.tuple #[])) w6) := Lib.hid (by
        have hz := HZ.out
        have hz2 := HZ2.out
        have he := HER.out
        have e1 : ({ s with ents := s.ents.eraseP (fun e => e.tier == 1), tmbs := s.tmbs ++ [⟨s.sq, ky⟩], lo := s.lo.set 1 fi } : GSt) = { sq := s.sq, fe := s.fe, ents := zs, tmbs := zt, lo := ⟨s.lo.a, fi, s.lo.c⟩, hi := s.hi } := by rw [← he, ← hz, ← hz2]; rfl
        rw [e1]
        exact ⟨rfl, A, c, A5, k5, n, L7.out.toLed (fun x => keys_retire (s := s) (s' := { sq := s.sq, fe := s.fe, ents := zs, tmbs := zt, lo := ⟨s.lo.a, fi, s.lo.c⟩, hi := s.hi }) hk (by rw [HK.out]; rfl) hz hz2 x), T7.out, .inl rfl, hA6.out⟩)
      go_wp2
      exact ⟨rfl, .tuple #[], by simp [results, Tryz.results103, go_sem], FIN.out⟩
    · go_upto_region 4 with fail
      have kx := L6.out.cs 6 _ rfl
      have fx := L6.out.fr 6
      simp only [Nat.zero_add] at kx
      have L7 := Lib.hid (LedF.kept (L6.out.cell (s' := { sq := s.sq, fe := s.fe, ents := zs, tmbs := zt, lo := ⟨s.lo.a, s.lo.b, fi⟩, hi := s.hi }) 6 (by omega) (.int .i64 fi) rfl rfl rfl (Nat.le_refl _)) ((Below.refl _ _).drew))
      have T7 := Lib.hid ((T6.out.setCell (p := ⟨g, 6, none⟩) (.inl rfl) (.int .i64 fi)).next ((Below.refl _ _).drew))
      have HC7 : Hid ((fun w' => w'.cell? ⟨w.heap.size, 0, none⟩ = some (.int .i64 kd) ∧ w'.cell? ⟨w.heap.size, 1, none⟩ = some (.int .i64 tk) ∧ w'.cell? ⟨w.heap.size, 2, none⟩ = some (.int .i64 2) ∧ w'.cell? ⟨w.heap.size, 3, none⟩ = some (.int .i64 bg) ∧ w'.cell? ⟨w.heap.size, 4, none⟩ = some (.int .i64 fi) ∧ w'.cell? ⟨w.heap.size, 5, none⟩ = some (.string ky)) (wc.setCell ⟨g, 6, none⟩ (.int .i64 fi)).drew) := Lib.hid (HSC.out wc 6 (.int .i64 fi) HC.out)
      refine wp_region_noPanic ?_
      refine wp_region_held_drew (S := fun w' => w'.cell? ⟨w.heap.size, 0, none⟩ = some (.int .i64 kd) ∧ w'.cell? ⟨w.heap.size, 1, none⟩ = some (.int .i64 tk) ∧ w'.cell? ⟨w.heap.size, 2, none⟩ = some (.int .i64 2) ∧ w'.cell? ⟨w.heap.size, 3, none⟩ = some (.int .i64 bg) ∧ w'.cell? ⟨w.heap.size, 4, none⟩ = some (.int .i64 fi) ∧ w'.cell? ⟨w.heap.size, 5, none⟩ = some (.string ky)) (by kernel_rfl) (by exact HC.out) (fun hHeld => ?_)
      refine kT 0 ?_
      go_frame
      refine kT 1 ?_
      go_frame
      refine kT 2 ?_
      go_frame
      refine kT 3 ?_
      go_frame
      refine kT 4 ?_
      go_frame
      refine kT 5 ?_
      go_frame
      refine kT 6 ?_
      go_frame
      refine kT 7 ?_
      go_frame
      refine kT 8 ?_
      go_frame
      refine wpAnyH_ready (rs := [9]) (by kernel_rfl) (by simp) ?_
      refine AllReadyH.cons (o := { dst := none, op := Op.store 3 (Operand.tmp 53) (Operand.tmp 49), type := 0, pos := "l06_manifest.go:312", after := #[{ on := 8, ground := Ground.data }, { on := 4, ground := Ground.data }, { on := 0, ground := Ground.phase }, { on := 1, ground := Ground.phase }, { on := 2, ground := Ground.phase }, { on := 3, ground := Ground.phase }, { on := 4, ground := Ground.phase }], guard := none }) rfl (fun K hK => ?_) AllReadyH.nil
      go_simp
      refine hK.out _ _ (by exact HC7.out) (fun hHeld => ?_)
      clear hK K
      try simp only [Act.put, List.setIfInBounds_toArray, List.set_cons_zero, List.set_cons_succ]
      refine wpAnyH_done (by kernel_rfl) ?_ _
      refine NoPanic.normal ?_
      clear hHeld kx fx L6 T6 HC
      have h6l : w.heap.size < ((wc.setCell ⟨g, 6, none⟩ (.int .i64 fi)).drew).heap.size := by show w.heap.size < (wc.setCell ⟨g, 6, none⟩ (.int .i64 fi)).heap.size; rw [size_setCell]; exact hlt
      generalize (wc.setCell ⟨g, 6, none⟩ (.int .i64 fi)).drew = w6 at *
      have FIN : Hid (DoneL base g A A2 m w { s with ents := s.ents.eraseP (fun e => e.tier == 2), tmbs := s.tmbs ++ [⟨s.sq, ky⟩], lo := s.lo.set 2 fi } (.returned (.tuple #[])) w6) := Lib.hid (by
        have hz := HZ.out
        have hz2 := HZ2.out
        have he := HER.out
        have e1 : ({ s with ents := s.ents.eraseP (fun e => e.tier == 2), tmbs := s.tmbs ++ [⟨s.sq, ky⟩], lo := s.lo.set 2 fi } : GSt) = { sq := s.sq, fe := s.fe, ents := zs, tmbs := zt, lo := ⟨s.lo.a, s.lo.b, fi⟩, hi := s.hi } := by rw [← he, ← hz, ← hz2]; rfl
        rw [e1]
        exact ⟨rfl, A, c, A5, k5, n, L7.out.toLed (fun x => keys_retire (s := s) (s' := { sq := s.sq, fe := s.fe, ents := zs, tmbs := zt, lo := ⟨s.lo.a, s.lo.b, fi⟩, hi := s.hi }) hk (by rw [HK.out]; rfl) hz hz2 x), T7.out, .inl rfl, hA6.out⟩)
      go_wp2
      exact ⟨rfl, .tuple #[], by simp [results, Tryz.results103, go_sem], FIN.out⟩

end Go.Proofs.YtpfanmcjlfdaiaaGreatDoorR

/- Contract of the ledger's apply: a record is tried, and done where it is taken. Conditions: the record is right, lengths. -/
namespace Go.Proofs.YtpfanmcjlfdaiaaGreatDoorR
open Go.ChangeShapes Go.WideShapes Go.ChangeAt Go.RowKit Go.Deep Go.Joins Go.Maps
set_option linter.unusedVariables false
set_option linter.unusedSimpArgs false

/-- what apply answers: the ledger is one of the state behind the record -/
def DoneA (base g : Nat) (A A2 : Option Addr) (m : Nat) (w : World) (s : GSt) (r : GRec) (e : Ending) (w' : World) : Prop :=
  ∃ (x : GSt) (b : Bool), AplP s r x b ∧ e = .returned (.bool b) ∧ ∃ (A5 : Option Addr) (k5 : Nat) (A6 : Option Addr) (k6 n' : Nat), Led base g w' x A5 k5 A6 k6 m n' ∧ LTurn g A A2 m w w' 

theorem takesPublish_any (base g : Nat) (s : GSt) (A : Option Addr) (c : Nat) (A2 : Option Addr) (c2 m n : Nat) (w : World) (hL : Led base g w s A c A2 c2 m n) (r : GRec) (ht : r.tier = 1 ∨ r.tier = 2) (hk : AnyKey r.key) (hb : 0 ≤ r.beg ∧ r.beg ≤ 100000) (hf : 0 ≤ r.fin ∧ r.fin ≤ 100000) (hp : Paths w) (hz : 1 < w.heap.size) (hw : Tab3 0 wid w) (hz2 : 0 < w.heap.size) :
    Calls Tryz.prog 100 #[.pointer (some ⟨g, 0, none⟩), .agg #[.int .i64 r.kind, .int .i64 r.tok, .int .i64 r.tier, .int .i64 r.beg, .int .i64 r.fin, .string r.key]] w (IsBB (TakeB s r) w) := by
  obtain ⟨kd, tk, ti, bg, fi, ky⟩ := r
  rcases ht with h | h <;> (dsimp only at h; subst h)
  · exact takesPublish_1 base g s A c A2 c2 m n w hL kd tk bg fi ky hk hb hf hp hz hw hz2
  · exact takesPublish_2 base g s A c A2 c2 m n w hL kd tk bg fi ky hk hb hf hp hz hw hz2

theorem IsKey.tier {key : ByteArray} {t n m : Int} (h : IsKey key t n m) : 0 ≤ t ∧ t ≤ 2 := ⟨h.1.1, h.1.2.1⟩

theorem take_iff_1 {s : GSt} {tk ti bg fi : Int} {ky : ByteArray} : TakeP s (⟨1, tk, ti, bg, fi, ky⟩ : GRec) ↔ TakeA { s with sq := s.sq + 1 } (⟨1, tk, ti, bg, fi, ky⟩ : GRec) := by
  constructor
  · intro h
    rcases h with ⟨h0, h⟩ | ⟨h0, h⟩ | ⟨h0, h⟩ | ⟨h0, h⟩ | ⟨h0, h⟩ <;> first | exact h | exact absurd h0 (by dsimp only; decide)
  · intro h
    exact .inl ⟨rfl, h⟩

set_option maxRecDepth 100000 in
theorem apply_1 (base g : Nat) (s : GSt) (A : Option Addr) (c : Nat) (A2 : Option Addr) (c2 m n : Nat) (w : World) (hL : Led base g w s A c A2 c2 m n) (hl : s.ents.length ≤ 1048576) (hl2 : s.tmbs.length ≤ 1048576) (hq : 0 ≤ s.sq ∧ s.sq ≤ 999999) (hN : keysN s) (hp : Paths w) (hz : 1 < base) (hw : Tab3 0 wid w) (hz2 : 0 < base) (tk ti bg fi : Int) (ky : ByteArray) (hk : AnyKey ky) (ht : 0 ≤ ti ∧ ti ≤ 2) (hks : ky.size ≤ 1048576) :
    Calls Tryz.prog 34 #[.pointer (some ⟨g, 0, none⟩), .agg #[.int .i64 1, .int .i64 tk, .int .i64 ti, .int .i64 bg, .int .i64 fi, .string ky]] w (DoneA base g A A2 m w s (⟨1, tk, ti, bg, fi, ky⟩ : GRec)) := by
  obtain ⟨W, hW⟩ : ∃ W, W = w.alloc (.cells #[.int .i64 1, .int .i64 tk, .int .i64 ti, .int .i64 bg, .int .i64 fi, .string ky] 38) := ⟨_, rfl⟩
  have CR : Hid (Cells W w.heap.size 0 [.int .i64 1, .int .i64 tk, .int .i64 ti, .int .i64 bg, .int .i64 fi, .string ky]) := Lib.hid (by rw [hW]; exact Cells.new w _ _)
  have b0 : Below w.heap.size w W := by rw [hW]; exact bal (Below.refl _ _) _
  have s0 : w.heap.size < W.heap.size := by rw [hW]; simp
  have hgl := hL.gl
  have hbl := hL.bl
  have HF := Lib.hid (hL.toF.kept b0)
  have HLw := Lib.hid hL
  have HP : Hid (∀ w', LTurn g A A2 m w w' → Paths w' ∧ 1 < w'.heap.size ∧ Tab3 0 wid w' ∧ 0 < w'.heap.size) := Lib.hid (fun w' h => by
    have h1 : Below base w w' := h.led hL
    have h2 := h1.size
    have h3 := h.size
    exact ⟨hp.below h1 hz, by omega, fun i hi => (h1.cell (p := ⟨0, i, none⟩) hz2).trans (hw i hi), by omega⟩)
  clear hL hp hw
  have k0 := HF.out.cs 0 _ rfl
  have f0 := HF.out.fr 0
  simp only [Nat.zero_add] at k0
  have hw1 : IntKind.i64.wrap (s.sq + 1) = s.sq + 1 := by rw [IntKind.wrap_i64]; omega
  have HL1 : Hid (LedF base g (W.setCell ⟨g, 0, none⟩ (.int .i64 (s.sq + 1))) { s with sq := s.sq + 1 } A c A2 c2 m n (fun k => memB k (keysAll s))) := Lib.hid (HF.out.cell 0 (by omega) _ rfl rfl rfl (by show s.sq.toNat ≤ (s.sq + 1).toNat; omega))
  have HT1 : Hid (LTurn g A A2 m w (W.setCell ⟨g, 0, none⟩ (.int .i64 (s.sq + 1)))) := Lib.hid ((LTurn.of b0).setCell (p := ⟨g, 0, none⟩) (.inl rfl) _)
  have HC1 : Hid (Cells (W.setCell ⟨g, 0, none⟩ (.int .i64 (s.sq + 1))) w.heap.size 0 [.int .i64 1, .int .i64 tk, .int .i64 ti, .int .i64 bg, .int .i64 fi, .string ky]) := Lib.hid (CR.out.far (p := ⟨g, 0, none⟩) (by show w.heap.size ≠ g; omega) _)
  have HW := Lib.hid hW; clear hW
  go_enter Tryz.func34, Tryz.ntmps34
  go_upto_region 1 with fail
  rw [← HW.out]
  go_upto_region 2 with fail
  try rw [hw1]
  have s1 : w.heap.size < (W.setCell ⟨g, 0, none⟩ (.int .i64 (s.sq + 1))).heap.size := by rw [size_setCell]; exact s0
  clear k0 f0 HF CR
  generalize W.setCell ⟨g, 0, none⟩ (.int .i64 (s.sq + 1)) = V at *
  have r0 := HC1.out 0 _ rfl
  simp only [Nat.zero_add] at r0
  go_wp2_with fail
  refine (ruleOf_1 V).mono ?_
  rintro e w3 ⟨rfl, hb3⟩
  obtain ⟨w4, hw4⟩ : ∃ w4, w4 = w3.alloc (.cells #[.func (.func 93) #[] #[], .func (.func 94) #[] #[], .func (.func 95) #[] #[]] 116) := ⟨_, rfl⟩
  have CU : Hid (Cells w4 w3.heap.size 0 [.func (.func 93) #[] #[], .func (.func 94) #[] #[], .func (.func 95) #[] #[]]) := Lib.hid (by rw [hw4]; exact Cells.new w3 _ _)
  have hb4 : Below V.heap.size V w4 := by rw [hw4]; exact hb3.alloc hb3.size _
  have hs4 : w3.heap.size < w4.heap.size := by rw [hw4]; simp
  have hs3 : V.heap.size ≤ w3.heap.size := hb3.size
  have b4 : Hid (LTurn g A A2 m w w4) := Lib.hid (HT1.out.next hb4)
  have L4 := Lib.hid ((HL1.out.kept hb4).toLed (fun _ => rfl))
  have CR4 := Lib.hid (HC1.out.below hb4 s1)
  have HW4 := Lib.hid hw4; clear hw4 r0 hb3
  go_upto_region 3 with fail
  rw [← HW4.out]
  have u1 := CU.out 1 _ rfl
  have q0 := CR4.out 0 _ rfl
  have q1 := CR4.out 1 _ rfl
  have q2 := CR4.out 2 _ rfl
  have q3 := CR4.out 3 _ rfl
  have q4 := CR4.out 4 _ rfl
  have q5 := CR4.out 5 _ rfl
  simp only [Nat.zero_add] at u1 q0 q1 q2 q3 q4 q5
  go_wp2_with fail
  refine (takesAdd_any base g { s with sq := s.sq + 1 } A c A2 c2 m n w4 L4.out (⟨1, tk, ti, bg, fi, ky⟩ : GRec) hk (HP.out w4 b4.out).1 (HP.out w4 b4.out).2.1).mono ?_
  rintro e w5 ⟨b, hb5, rfl, hbl5⟩
  have HT : Hid (b = true ↔ TakeP s (⟨1, tk, ti, bg, fi, ky⟩ : GRec)) := Lib.hid (hb5.trans take_iff_1.symm)
  have L5 := Lib.hid ((L4.out.toF.kept hbl5).toLed (fun _ => rfl))
  have T5 : Hid (LTurn g A A2 m w w5) := Lib.hid (b4.out.next hbl5)
  clear hb5 u1 q0 q1 q2 q3 q4 q5
  cases b
  · have HR : Hid (AplP s (⟨1, tk, ti, bg, fi, ky⟩ : GRec) { s with sq := s.sq + 1 } false) := Lib.hid (.inr ⟨fun h => absurd (HT.out.2 h) (by decide), rfl, rfl⟩)
    go_wp2
    go_ret
    exact ⟨_, false, HR.out, rfl, A, c, A2, c2, n, L5.out, T5.out⟩
  · have HB : Hid (TakeP s (⟨1, tk, ti, bg, fi, ky⟩ : GRec)) := Lib.hid (HT.out.1 rfl)
    have u2 := (CU.out.below hbl5 hs4) 2 _ rfl
    have CR5 := Lib.hid (CR4.out.below hbl5 (by omega))
    have q0 := CR5.out 0 _ rfl
    have q1 := CR5.out 1 _ rfl
    have q2 := CR5.out 2 _ rfl
    have q3 := CR5.out 3 _ rfl
    have q4 := CR5.out 4 _ rfl
    have q5 := CR5.out 5 _ rfl
    simp only [Nat.zero_add] at u2 q0 q1 q2 q3 q4 q5
    go_wp2_with fail
    refine (enter_any base g { s with sq := s.sq + 1 } A c A2 c2 m n w5 L5.out (⟨1, tk, ti, bg, fi, ky⟩ : GRec) ht hks hl (by show n + 1 ≤ 8192 + (s.sq + 1).toNat; have := HLw.out.nb; omega) (by have := HLw.out.nb; omega)).mono ?_
    rintro e w6 ⟨rfl, A5, k5, A6, k6, n', hL6, hT6, h1, h2⟩
    have HR : Hid (DoneA base g A A2 m w s (⟨1, tk, ti, bg, fi, ky⟩ : GRec) (.returned (.bool true)) w6) := Lib.hid ⟨_, true, .inl ⟨HB.out, rfl, rfl⟩, rfl, A5, k5, A6, k6, n', hL6, LTurn.trans T5.out hT6 (.inl rfl) (.inl rfl)⟩
    clear hL6 hT6 u2 q0 q1 q2 q3 q4 q5
    go_wp2
    go_ret
    exact HR.out

theorem take_iff_2 {s : GSt} {tk ti bg fi : Int} {ky : ByteArray} : TakeP s (⟨2, tk, ti, bg, fi, ky⟩ : GRec) ↔ ({ s with sq := s.sq + 1 } : GSt).fe < ((⟨2, tk, ti, bg, fi, ky⟩ : GRec)).tok := by
  constructor
  · intro h
    rcases h with ⟨h0, h⟩ | ⟨h0, h⟩ | ⟨h0, h⟩ | ⟨h0, h⟩ | ⟨h0, h⟩ <;> first | exact h | exact absurd h0 (by dsimp only; decide)
  · intro h
    exact .inr (.inl ⟨rfl, h⟩)

set_option maxRecDepth 100000 in
theorem apply_2 (base g : Nat) (s : GSt) (A : Option Addr) (c : Nat) (A2 : Option Addr) (c2 m n : Nat) (w : World) (hL : Led base g w s A c A2 c2 m n) (hl : s.ents.length ≤ 1048576) (hl2 : s.tmbs.length ≤ 1048576) (hq : 0 ≤ s.sq ∧ s.sq ≤ 999999) (hN : keysN s) (hp : Paths w) (hz : 1 < base) (hw : Tab3 0 wid w) (hz2 : 0 < base) (tk ti bg fi : Int) (ky : ByteArray)  :
    Calls Tryz.prog 34 #[.pointer (some ⟨g, 0, none⟩), .agg #[.int .i64 2, .int .i64 tk, .int .i64 ti, .int .i64 bg, .int .i64 fi, .string ky]] w (DoneA base g A A2 m w s (⟨2, tk, ti, bg, fi, ky⟩ : GRec)) := by
  obtain ⟨W, hW⟩ : ∃ W, W = w.alloc (.cells #[.int .i64 2, .int .i64 tk, .int .i64 ti, .int .i64 bg, .int .i64 fi, .string ky] 38) := ⟨_, rfl⟩
  have CR : Hid (Cells W w.heap.size 0 [.int .i64 2, .int .i64 tk, .int .i64 ti, .int .i64 bg, .int .i64 fi, .string ky]) := Lib.hid (by rw [hW]; exact Cells.new w _ _)
  have b0 : Below w.heap.size w W := by rw [hW]; exact bal (Below.refl _ _) _
  have s0 : w.heap.size < W.heap.size := by rw [hW]; simp
  have hgl := hL.gl
  have hbl := hL.bl
  have HF := Lib.hid (hL.toF.kept b0)
  have HLw := Lib.hid hL
  have HP : Hid (∀ w', LTurn g A A2 m w w' → Paths w' ∧ 1 < w'.heap.size ∧ Tab3 0 wid w' ∧ 0 < w'.heap.size) := Lib.hid (fun w' h => by
    have h1 : Below base w w' := h.led hL
    have h2 := h1.size
    have h3 := h.size
    exact ⟨hp.below h1 hz, by omega, fun i hi => (h1.cell (p := ⟨0, i, none⟩) hz2).trans (hw i hi), by omega⟩)
  clear hL hp hw
  have k0 := HF.out.cs 0 _ rfl
  have f0 := HF.out.fr 0
  simp only [Nat.zero_add] at k0
  have hw1 : IntKind.i64.wrap (s.sq + 1) = s.sq + 1 := by rw [IntKind.wrap_i64]; omega
  have HL1 : Hid (LedF base g (W.setCell ⟨g, 0, none⟩ (.int .i64 (s.sq + 1))) { s with sq := s.sq + 1 } A c A2 c2 m n (fun k => memB k (keysAll s))) := Lib.hid (HF.out.cell 0 (by omega) _ rfl rfl rfl (by show s.sq.toNat ≤ (s.sq + 1).toNat; omega))
  have HT1 : Hid (LTurn g A A2 m w (W.setCell ⟨g, 0, none⟩ (.int .i64 (s.sq + 1)))) := Lib.hid ((LTurn.of b0).setCell (p := ⟨g, 0, none⟩) (.inl rfl) _)
  have HC1 : Hid (Cells (W.setCell ⟨g, 0, none⟩ (.int .i64 (s.sq + 1))) w.heap.size 0 [.int .i64 2, .int .i64 tk, .int .i64 ti, .int .i64 bg, .int .i64 fi, .string ky]) := Lib.hid (CR.out.far (p := ⟨g, 0, none⟩) (by show w.heap.size ≠ g; omega) _)
  have HW := Lib.hid hW; clear hW
  go_enter Tryz.func34, Tryz.ntmps34
  go_upto_region 1 with fail
  rw [← HW.out]
  go_upto_region 2 with fail
  try rw [hw1]
  have s1 : w.heap.size < (W.setCell ⟨g, 0, none⟩ (.int .i64 (s.sq + 1))).heap.size := by rw [size_setCell]; exact s0
  clear k0 f0 HF CR
  generalize W.setCell ⟨g, 0, none⟩ (.int .i64 (s.sq + 1)) = V at *
  have r0 := HC1.out 0 _ rfl
  simp only [Nat.zero_add] at r0
  go_wp2_with fail
  refine (ruleOf_2 V).mono ?_
  rintro e w3 ⟨rfl, hb3⟩
  obtain ⟨w4, hw4⟩ : ∃ w4, w4 = w3.alloc (.cells #[.func (.func 96) #[] #[], .func (.func 97) #[] #[], .func (.func 98) #[] #[]] 116) := ⟨_, rfl⟩
  have CU : Hid (Cells w4 w3.heap.size 0 [.func (.func 96) #[] #[], .func (.func 97) #[] #[], .func (.func 98) #[] #[]]) := Lib.hid (by rw [hw4]; exact Cells.new w3 _ _)
  have hb4 : Below V.heap.size V w4 := by rw [hw4]; exact hb3.alloc hb3.size _
  have hs4 : w3.heap.size < w4.heap.size := by rw [hw4]; simp
  have hs3 : V.heap.size ≤ w3.heap.size := hb3.size
  have b4 : Hid (LTurn g A A2 m w w4) := Lib.hid (HT1.out.next hb4)
  have L4 := Lib.hid ((HL1.out.kept hb4).toLed (fun _ => rfl))
  have CR4 := Lib.hid (HC1.out.below hb4 s1)
  have HW4 := Lib.hid hw4; clear hw4 r0 hb3
  go_upto_region 3 with fail
  rw [← HW4.out]
  have u1 := CU.out 1 _ rfl
  have q0 := CR4.out 0 _ rfl
  have q1 := CR4.out 1 _ rfl
  have q2 := CR4.out 2 _ rfl
  have q3 := CR4.out 3 _ rfl
  have q4 := CR4.out 4 _ rfl
  have q5 := CR4.out 5 _ rfl
  simp only [Nat.zero_add] at u1 q0 q1 q2 q3 q4 q5
  go_wp2_with fail
  refine (takesClaim_any base g { s with sq := s.sq + 1 } A c A2 c2 m n w4 L4.out (⟨2, tk, ti, bg, fi, ky⟩ : GRec)).mono ?_
  rintro e w5 ⟨b, hb5, rfl, hbl5⟩
  have HT : Hid (b = true ↔ TakeP s (⟨2, tk, ti, bg, fi, ky⟩ : GRec)) := Lib.hid (hb5.trans take_iff_2.symm)
  have L5 := Lib.hid ((L4.out.toF.kept hbl5).toLed (fun _ => rfl))
  have T5 : Hid (LTurn g A A2 m w w5) := Lib.hid (b4.out.next hbl5)
  clear hb5 u1 q0 q1 q2 q3 q4 q5
  cases b
  · have HR : Hid (AplP s (⟨2, tk, ti, bg, fi, ky⟩ : GRec) { s with sq := s.sq + 1 } false) := Lib.hid (.inr ⟨fun h => absurd (HT.out.2 h) (by decide), rfl, rfl⟩)
    go_wp2
    go_ret
    exact ⟨_, false, HR.out, rfl, A, c, A2, c2, n, L5.out, T5.out⟩
  · have HB : Hid (TakeP s (⟨2, tk, ti, bg, fi, ky⟩ : GRec)) := Lib.hid (HT.out.1 rfl)
    have u2 := (CU.out.below hbl5 hs4) 2 _ rfl
    have CR5 := Lib.hid (CR4.out.below hbl5 (by omega))
    have q0 := CR5.out 0 _ rfl
    have q1 := CR5.out 1 _ rfl
    have q2 := CR5.out 2 _ rfl
    have q3 := CR5.out 3 _ rfl
    have q4 := CR5.out 4 _ rfl
    have q5 := CR5.out 5 _ rfl
    simp only [Nat.zero_add] at u2 q0 q1 q2 q3 q4 q5
    go_wp2_with fail
    refine (claim_any base g { s with sq := s.sq + 1 } A c A2 c2 m n w5 L5.out (⟨2, tk, ti, bg, fi, ky⟩ : GRec)).mono ?_
    rintro e w6 ⟨rfl, A5, k5, A6, k6, n', hL6, hT6, h1, h2⟩
    have HR : Hid (DoneA base g A A2 m w s (⟨2, tk, ti, bg, fi, ky⟩ : GRec) (.returned (.bool true)) w6) := Lib.hid ⟨_, true, .inl ⟨HB.out, rfl, rfl⟩, rfl, A5, k5, A6, k6, n', hL6, LTurn.trans T5.out hT6 (.inl rfl) (.inl rfl)⟩
    clear hL6 hT6 u2 q0 q1 q2 q3 q4 q5
    go_wp2
    go_ret
    exact HR.out

theorem take_iff_3 {s : GSt} {tk ti bg fi : Int} {ky : ByteArray} : TakeP s (⟨3, tk, ti, bg, fi, ky⟩ : GRec) ↔ TakeB { s with sq := s.sq + 1 } (⟨3, tk, ti, bg, fi, ky⟩ : GRec) := by
  constructor
  · intro h
    rcases h with ⟨h0, h⟩ | ⟨h0, h⟩ | ⟨h0, h⟩ | ⟨h0, h⟩ | ⟨h0, h⟩ <;> first | exact h | exact absurd h0 (by dsimp only; decide)
  · intro h
    exact .inr (.inr (.inl ⟨rfl, h⟩))

set_option maxRecDepth 100000 in
theorem apply_3 (base g : Nat) (s : GSt) (A : Option Addr) (c : Nat) (A2 : Option Addr) (c2 m n : Nat) (w : World) (hL : Led base g w s A c A2 c2 m n) (hl : s.ents.length ≤ 1048576) (hl2 : s.tmbs.length ≤ 1048576) (hq : 0 ≤ s.sq ∧ s.sq ≤ 999999) (hN : keysN s) (hp : Paths w) (hz : 1 < base) (hw : Tab3 0 wid w) (hz2 : 0 < base) (tk ti bg fi : Int) (ky : ByteArray) (ht : ti = 1 ∨ ti = 2) (hk : AnyKey ky) (hb : 0 ≤ bg ∧ bg ≤ 100000) (hf : 0 ≤ fi ∧ fi ≤ 100000) (hks : ky.size ≤ 1048576) :
    Calls Tryz.prog 34 #[.pointer (some ⟨g, 0, none⟩), .agg #[.int .i64 3, .int .i64 tk, .int .i64 ti, .int .i64 bg, .int .i64 fi, .string ky]] w (DoneA base g A A2 m w s (⟨3, tk, ti, bg, fi, ky⟩ : GRec)) := by
  obtain ⟨W, hW⟩ : ∃ W, W = w.alloc (.cells #[.int .i64 3, .int .i64 tk, .int .i64 ti, .int .i64 bg, .int .i64 fi, .string ky] 38) := ⟨_, rfl⟩
  have CR : Hid (Cells W w.heap.size 0 [.int .i64 3, .int .i64 tk, .int .i64 ti, .int .i64 bg, .int .i64 fi, .string ky]) := Lib.hid (by rw [hW]; exact Cells.new w _ _)
  have b0 : Below w.heap.size w W := by rw [hW]; exact bal (Below.refl _ _) _
  have s0 : w.heap.size < W.heap.size := by rw [hW]; simp
  have hgl := hL.gl
  have hbl := hL.bl
  have HF := Lib.hid (hL.toF.kept b0)
  have HLw := Lib.hid hL
  have HP : Hid (∀ w', LTurn g A A2 m w w' → Paths w' ∧ 1 < w'.heap.size ∧ Tab3 0 wid w' ∧ 0 < w'.heap.size) := Lib.hid (fun w' h => by
    have h1 : Below base w w' := h.led hL
    have h2 := h1.size
    have h3 := h.size
    exact ⟨hp.below h1 hz, by omega, fun i hi => (h1.cell (p := ⟨0, i, none⟩) hz2).trans (hw i hi), by omega⟩)
  clear hL hp hw
  have k0 := HF.out.cs 0 _ rfl
  have f0 := HF.out.fr 0
  simp only [Nat.zero_add] at k0
  have hw1 : IntKind.i64.wrap (s.sq + 1) = s.sq + 1 := by rw [IntKind.wrap_i64]; omega
  have HL1 : Hid (LedF base g (W.setCell ⟨g, 0, none⟩ (.int .i64 (s.sq + 1))) { s with sq := s.sq + 1 } A c A2 c2 m n (fun k => memB k (keysAll s))) := Lib.hid (HF.out.cell 0 (by omega) _ rfl rfl rfl (by show s.sq.toNat ≤ (s.sq + 1).toNat; omega))
  have HT1 : Hid (LTurn g A A2 m w (W.setCell ⟨g, 0, none⟩ (.int .i64 (s.sq + 1)))) := Lib.hid ((LTurn.of b0).setCell (p := ⟨g, 0, none⟩) (.inl rfl) _)
  have HC1 : Hid (Cells (W.setCell ⟨g, 0, none⟩ (.int .i64 (s.sq + 1))) w.heap.size 0 [.int .i64 3, .int .i64 tk, .int .i64 ti, .int .i64 bg, .int .i64 fi, .string ky]) := Lib.hid (CR.out.far (p := ⟨g, 0, none⟩) (by show w.heap.size ≠ g; omega) _)
  have HW := Lib.hid hW; clear hW
  go_enter Tryz.func34, Tryz.ntmps34
  go_upto_region 1 with fail
  rw [← HW.out]
  go_upto_region 2 with fail
  try rw [hw1]
  have s1 : w.heap.size < (W.setCell ⟨g, 0, none⟩ (.int .i64 (s.sq + 1))).heap.size := by rw [size_setCell]; exact s0
  clear k0 f0 HF CR
  generalize W.setCell ⟨g, 0, none⟩ (.int .i64 (s.sq + 1)) = V at *
  have r0 := HC1.out 0 _ rfl
  simp only [Nat.zero_add] at r0
  go_wp2_with fail
  refine (ruleOf_3 V).mono ?_
  rintro e w3 ⟨rfl, hb3⟩
  obtain ⟨w4, hw4⟩ : ∃ w4, w4 = w3.alloc (.cells #[.func (.func 99) #[] #[], .func (.func 100) #[] #[], .func (.func 95) #[] #[]] 116) := ⟨_, rfl⟩
  have CU : Hid (Cells w4 w3.heap.size 0 [.func (.func 99) #[] #[], .func (.func 100) #[] #[], .func (.func 95) #[] #[]]) := Lib.hid (by rw [hw4]; exact Cells.new w3 _ _)
  have hb4 : Below V.heap.size V w4 := by rw [hw4]; exact hb3.alloc hb3.size _
  have hs4 : w3.heap.size < w4.heap.size := by rw [hw4]; simp
  have hs3 : V.heap.size ≤ w3.heap.size := hb3.size
  have b4 : Hid (LTurn g A A2 m w w4) := Lib.hid (HT1.out.next hb4)
  have L4 := Lib.hid ((HL1.out.kept hb4).toLed (fun _ => rfl))
  have CR4 := Lib.hid (HC1.out.below hb4 s1)
  have HW4 := Lib.hid hw4; clear hw4 r0 hb3
  go_upto_region 3 with fail
  rw [← HW4.out]
  have u1 := CU.out 1 _ rfl
  have q0 := CR4.out 0 _ rfl
  have q1 := CR4.out 1 _ rfl
  have q2 := CR4.out 2 _ rfl
  have q3 := CR4.out 3 _ rfl
  have q4 := CR4.out 4 _ rfl
  have q5 := CR4.out 5 _ rfl
  simp only [Nat.zero_add] at u1 q0 q1 q2 q3 q4 q5
  go_wp2_with fail
  refine (takesPublish_any base g { s with sq := s.sq + 1 } A c A2 c2 m n w4 L4.out (⟨3, tk, ti, bg, fi, ky⟩ : GRec) ht hk hb hf (HP.out w4 b4.out).1 (HP.out w4 b4.out).2.1 (HP.out w4 b4.out).2.2.1 (HP.out w4 b4.out).2.2.2).mono ?_
  rintro e w5 ⟨b, hb5, rfl, hbl5⟩
  have HT : Hid (b = true ↔ TakeP s (⟨3, tk, ti, bg, fi, ky⟩ : GRec)) := Lib.hid (hb5.trans take_iff_3.symm)
  have L5 := Lib.hid ((L4.out.toF.kept hbl5).toLed (fun _ => rfl))
  have T5 : Hid (LTurn g A A2 m w w5) := Lib.hid (b4.out.next hbl5)
  clear hb5 u1 q0 q1 q2 q3 q4 q5
  cases b
  · have HR : Hid (AplP s (⟨3, tk, ti, bg, fi, ky⟩ : GRec) { s with sq := s.sq + 1 } false) := Lib.hid (.inr ⟨fun h => absurd (HT.out.2 h) (by decide), rfl, rfl⟩)
    go_wp2
    go_ret
    exact ⟨_, false, HR.out, rfl, A, c, A2, c2, n, L5.out, T5.out⟩
  · have HB : Hid (TakeP s (⟨3, tk, ti, bg, fi, ky⟩ : GRec)) := Lib.hid (HT.out.1 rfl)
    have u2 := (CU.out.below hbl5 hs4) 2 _ rfl
    have CR5 := Lib.hid (CR4.out.below hbl5 (by omega))
    have q0 := CR5.out 0 _ rfl
    have q1 := CR5.out 1 _ rfl
    have q2 := CR5.out 2 _ rfl
    have q3 := CR5.out 3 _ rfl
    have q4 := CR5.out 4 _ rfl
    have q5 := CR5.out 5 _ rfl
    simp only [Nat.zero_add] at u2 q0 q1 q2 q3 q4 q5
    go_wp2_with fail
    refine (enter_any base g { s with sq := s.sq + 1 } A c A2 c2 m n w5 L5.out (⟨3, tk, ti, bg, fi, ky⟩ : GRec) (show 0 ≤ ti ∧ ti ≤ 2 by omega) hks hl (by show n + 1 ≤ 8192 + (s.sq + 1).toNat; have := HLw.out.nb; omega) (by have := HLw.out.nb; omega)).mono ?_
    rintro e w6 ⟨rfl, A5, k5, A6, k6, n', hL6, hT6, h1, h2⟩
    have HR : Hid (DoneA base g A A2 m w s (⟨3, tk, ti, bg, fi, ky⟩ : GRec) (.returned (.bool true)) w6) := Lib.hid ⟨_, true, .inl ⟨HB.out, rfl, rfl⟩, rfl, A5, k5, A6, k6, n', hL6, LTurn.trans T5.out hT6 (.inl rfl) (.inl rfl)⟩
    clear hL6 hT6 u2 q0 q1 q2 q3 q4 q5
    go_wp2
    go_ret
    exact HR.out

theorem take_iff_4 {s : GSt} {tk ti bg fi : Int} {ky : ByteArray} : TakeP s (⟨4, tk, ti, bg, fi, ky⟩ : GRec) ↔ TakeR { s with sq := s.sq + 1 } (⟨4, tk, ti, bg, fi, ky⟩ : GRec) := by
  constructor
  · intro h
    rcases h with ⟨h0, h⟩ | ⟨h0, h⟩ | ⟨h0, h⟩ | ⟨h0, h⟩ | ⟨h0, h⟩ <;> first | exact h | exact absurd h0 (by dsimp only; decide)
  · intro h
    exact .inr (.inr (.inr (.inl ⟨rfl, h⟩)))

set_option maxRecDepth 100000 in
theorem apply_4 (base g : Nat) (s : GSt) (A : Option Addr) (c : Nat) (A2 : Option Addr) (c2 m n : Nat) (w : World) (hL : Led base g w s A c A2 c2 m n) (hl : s.ents.length ≤ 1048576) (hl2 : s.tmbs.length ≤ 1048576) (hq : 0 ≤ s.sq ∧ s.sq ≤ 999999) (hN : keysN s) (hp : Paths w) (hz : 1 < base) (hw : Tab3 0 wid w) (hz2 : 0 < base) (tk ti bg fi : Int) (ky : ByteArray) (ht : 0 ≤ ti ∧ ti ≤ 2) (hks : ky.size ≤ 1048576) :
    Calls Tryz.prog 34 #[.pointer (some ⟨g, 0, none⟩), .agg #[.int .i64 4, .int .i64 tk, .int .i64 ti, .int .i64 bg, .int .i64 fi, .string ky]] w (DoneA base g A A2 m w s (⟨4, tk, ti, bg, fi, ky⟩ : GRec)) := by
  obtain ⟨W, hW⟩ : ∃ W, W = w.alloc (.cells #[.int .i64 4, .int .i64 tk, .int .i64 ti, .int .i64 bg, .int .i64 fi, .string ky] 38) := ⟨_, rfl⟩
  have CR : Hid (Cells W w.heap.size 0 [.int .i64 4, .int .i64 tk, .int .i64 ti, .int .i64 bg, .int .i64 fi, .string ky]) := Lib.hid (by rw [hW]; exact Cells.new w _ _)
  have b0 : Below w.heap.size w W := by rw [hW]; exact bal (Below.refl _ _) _
  have s0 : w.heap.size < W.heap.size := by rw [hW]; simp
  have hgl := hL.gl
  have hbl := hL.bl
  have HF := Lib.hid (hL.toF.kept b0)
  have HLw := Lib.hid hL
  have HP : Hid (∀ w', LTurn g A A2 m w w' → Paths w' ∧ 1 < w'.heap.size ∧ Tab3 0 wid w' ∧ 0 < w'.heap.size) := Lib.hid (fun w' h => by
    have h1 : Below base w w' := h.led hL
    have h2 := h1.size
    have h3 := h.size
    exact ⟨hp.below h1 hz, by omega, fun i hi => (h1.cell (p := ⟨0, i, none⟩) hz2).trans (hw i hi), by omega⟩)
  clear hL hp hw
  have k0 := HF.out.cs 0 _ rfl
  have f0 := HF.out.fr 0
  simp only [Nat.zero_add] at k0
  have hw1 : IntKind.i64.wrap (s.sq + 1) = s.sq + 1 := by rw [IntKind.wrap_i64]; omega
  have HL1 : Hid (LedF base g (W.setCell ⟨g, 0, none⟩ (.int .i64 (s.sq + 1))) { s with sq := s.sq + 1 } A c A2 c2 m n (fun k => memB k (keysAll s))) := Lib.hid (HF.out.cell 0 (by omega) _ rfl rfl rfl (by show s.sq.toNat ≤ (s.sq + 1).toNat; omega))
  have HT1 : Hid (LTurn g A A2 m w (W.setCell ⟨g, 0, none⟩ (.int .i64 (s.sq + 1)))) := Lib.hid ((LTurn.of b0).setCell (p := ⟨g, 0, none⟩) (.inl rfl) _)
  have HC1 : Hid (Cells (W.setCell ⟨g, 0, none⟩ (.int .i64 (s.sq + 1))) w.heap.size 0 [.int .i64 4, .int .i64 tk, .int .i64 ti, .int .i64 bg, .int .i64 fi, .string ky]) := Lib.hid (CR.out.far (p := ⟨g, 0, none⟩) (by show w.heap.size ≠ g; omega) _)
  have HW := Lib.hid hW; clear hW
  go_enter Tryz.func34, Tryz.ntmps34
  go_upto_region 1 with fail
  rw [← HW.out]
  go_upto_region 2 with fail
  try rw [hw1]
  have s1 : w.heap.size < (W.setCell ⟨g, 0, none⟩ (.int .i64 (s.sq + 1))).heap.size := by rw [size_setCell]; exact s0
  clear k0 f0 HF CR
  generalize W.setCell ⟨g, 0, none⟩ (.int .i64 (s.sq + 1)) = V at *
  have r0 := HC1.out 0 _ rfl
  simp only [Nat.zero_add] at r0
  go_wp2_with fail
  refine (ruleOf_4 V).mono ?_
  rintro e w3 ⟨rfl, hb3⟩
  obtain ⟨w4, hw4⟩ : ∃ w4, w4 = w3.alloc (.cells #[.func (.func 101) #[] #[], .func (.func 102) #[] #[], .func (.func 103) #[] #[]] 116) := ⟨_, rfl⟩
  have CU : Hid (Cells w4 w3.heap.size 0 [.func (.func 101) #[] #[], .func (.func 102) #[] #[], .func (.func 103) #[] #[]]) := Lib.hid (by rw [hw4]; exact Cells.new w3 _ _)
  have hb4 : Below V.heap.size V w4 := by rw [hw4]; exact hb3.alloc hb3.size _
  have hs4 : w3.heap.size < w4.heap.size := by rw [hw4]; simp
  have hs3 : V.heap.size ≤ w3.heap.size := hb3.size
  have b4 : Hid (LTurn g A A2 m w w4) := Lib.hid (HT1.out.next hb4)
  have L4 := Lib.hid ((HL1.out.kept hb4).toLed (fun _ => rfl))
  have CR4 := Lib.hid (HC1.out.below hb4 s1)
  have HW4 := Lib.hid hw4; clear hw4 r0 hb3
  go_upto_region 3 with fail
  rw [← HW4.out]
  have u1 := CU.out 1 _ rfl
  have q0 := CR4.out 0 _ rfl
  have q1 := CR4.out 1 _ rfl
  have q2 := CR4.out 2 _ rfl
  have q3 := CR4.out 3 _ rfl
  have q4 := CR4.out 4 _ rfl
  have q5 := CR4.out 5 _ rfl
  simp only [Nat.zero_add] at u1 q0 q1 q2 q3 q4 q5
  go_wp2_with fail
  refine (takesRetire_any base g { s with sq := s.sq + 1 } A c A2 c2 m n w4 L4.out (⟨4, tk, ti, bg, fi, ky⟩ : GRec) ht hl).mono ?_
  rintro e w5 ⟨b, hb5, rfl, hbl5⟩
  have HT : Hid (b = true ↔ TakeP s (⟨4, tk, ti, bg, fi, ky⟩ : GRec)) := Lib.hid (hb5.trans take_iff_4.symm)
  have L5 := Lib.hid ((L4.out.toF.kept hbl5).toLed (fun _ => rfl))
  have T5 : Hid (LTurn g A A2 m w w5) := Lib.hid (b4.out.next hbl5)
  clear hb5 u1 q0 q1 q2 q3 q4 q5
  cases b
  · have HR : Hid (AplP s (⟨4, tk, ti, bg, fi, ky⟩ : GRec) { s with sq := s.sq + 1 } false) := Lib.hid (.inr ⟨fun h => absurd (HT.out.2 h) (by decide), rfl, rfl⟩)
    go_wp2
    go_ret
    exact ⟨_, false, HR.out, rfl, A, c, A2, c2, n, L5.out, T5.out⟩
  · have HB : Hid (TakeP s (⟨4, tk, ti, bg, fi, ky⟩ : GRec)) := Lib.hid (HT.out.1 rfl)
    have u2 := (CU.out.below hbl5 hs4) 2 _ rfl
    have CR5 := Lib.hid (CR4.out.below hbl5 (by omega))
    have q0 := CR5.out 0 _ rfl
    have q1 := CR5.out 1 _ rfl
    have q2 := CR5.out 2 _ rfl
    have q3 := CR5.out 3 _ rfl
    have q4 := CR5.out 4 _ rfl
    have q5 := CR5.out 5 _ rfl
    simp only [Nat.zero_add] at u2 q0 q1 q2 q3 q4 q5
    go_wp2_with fail
    refine (retire_any base g { s with sq := s.sq + 1 } A c A2 c2 m n w5 L5.out (⟨4, tk, ti, bg, fi, ky⟩ : GRec) ht hks hl hl2 (take_iff_4.1 HB.out).2.1).mono ?_
    rintro e w6 ⟨rfl, A5, k5, A6, k6, n', hL6, hT6, h1, h2⟩
    have HR : Hid (DoneA base g A A2 m w s (⟨4, tk, ti, bg, fi, ky⟩ : GRec) (.returned (.bool true)) w6) := Lib.hid ⟨_, true, .inl ⟨HB.out, rfl, rfl⟩, rfl, A5, k5, A6, k6, n', hL6, LTurn.trans T5.out hT6 (.inl rfl) (.inl rfl)⟩
    clear hL6 hT6 u2 q0 q1 q2 q3 q4 q5
    go_wp2
    go_ret
    exact HR.out

theorem take_iff_5 {s : GSt} {tk ti bg fi : Int} {ky : ByteArray} : TakeP s (⟨5, tk, ti, bg, fi, ky⟩ : GRec) ↔ restsB { s with sq := s.sq + 1 } ((⟨5, tk, ti, bg, fi, ky⟩ : GRec)).key = true := by
  constructor
  · intro h
    rcases h with ⟨h0, h⟩ | ⟨h0, h⟩ | ⟨h0, h⟩ | ⟨h0, h⟩ | ⟨h0, h⟩ <;> first | exact h | exact absurd h0 (by dsimp only; decide)
  · intro h
    exact .inr (.inr (.inr (.inr ⟨rfl, h⟩)))

set_option maxRecDepth 100000 in
theorem apply_5 (base g : Nat) (s : GSt) (A : Option Addr) (c : Nat) (A2 : Option Addr) (c2 m n : Nat) (w : World) (hL : Led base g w s A c A2 c2 m n) (hl : s.ents.length ≤ 1048576) (hl2 : s.tmbs.length ≤ 1048576) (hq : 0 ≤ s.sq ∧ s.sq ≤ 999999) (hN : keysN s) (hp : Paths w) (hz : 1 < base) (hw : Tab3 0 wid w) (hz2 : 0 < base) (tk ti bg fi : Int) (ky : ByteArray) (hks : ky.size ≤ 1048576) :
    Calls Tryz.prog 34 #[.pointer (some ⟨g, 0, none⟩), .agg #[.int .i64 5, .int .i64 tk, .int .i64 ti, .int .i64 bg, .int .i64 fi, .string ky]] w (DoneA base g A A2 m w s (⟨5, tk, ti, bg, fi, ky⟩ : GRec)) := by
  obtain ⟨W, hW⟩ : ∃ W, W = w.alloc (.cells #[.int .i64 5, .int .i64 tk, .int .i64 ti, .int .i64 bg, .int .i64 fi, .string ky] 38) := ⟨_, rfl⟩
  have CR : Hid (Cells W w.heap.size 0 [.int .i64 5, .int .i64 tk, .int .i64 ti, .int .i64 bg, .int .i64 fi, .string ky]) := Lib.hid (by rw [hW]; exact Cells.new w _ _)
  have b0 : Below w.heap.size w W := by rw [hW]; exact bal (Below.refl _ _) _
  have s0 : w.heap.size < W.heap.size := by rw [hW]; simp
  have hgl := hL.gl
  have hbl := hL.bl
  have HF := Lib.hid (hL.toF.kept b0)
  have HLw := Lib.hid hL
  have HP : Hid (∀ w', LTurn g A A2 m w w' → Paths w' ∧ 1 < w'.heap.size ∧ Tab3 0 wid w' ∧ 0 < w'.heap.size) := Lib.hid (fun w' h => by
    have h1 : Below base w w' := h.led hL
    have h2 := h1.size
    have h3 := h.size
    exact ⟨hp.below h1 hz, by omega, fun i hi => (h1.cell (p := ⟨0, i, none⟩) hz2).trans (hw i hi), by omega⟩)
  clear hL hp hw
  have k0 := HF.out.cs 0 _ rfl
  have f0 := HF.out.fr 0
  simp only [Nat.zero_add] at k0
  have hw1 : IntKind.i64.wrap (s.sq + 1) = s.sq + 1 := by rw [IntKind.wrap_i64]; omega
  have HL1 : Hid (LedF base g (W.setCell ⟨g, 0, none⟩ (.int .i64 (s.sq + 1))) { s with sq := s.sq + 1 } A c A2 c2 m n (fun k => memB k (keysAll s))) := Lib.hid (HF.out.cell 0 (by omega) _ rfl rfl rfl (by show s.sq.toNat ≤ (s.sq + 1).toNat; omega))
  have HT1 : Hid (LTurn g A A2 m w (W.setCell ⟨g, 0, none⟩ (.int .i64 (s.sq + 1)))) := Lib.hid ((LTurn.of b0).setCell (p := ⟨g, 0, none⟩) (.inl rfl) _)
  have HC1 : Hid (Cells (W.setCell ⟨g, 0, none⟩ (.int .i64 (s.sq + 1))) w.heap.size 0 [.int .i64 5, .int .i64 tk, .int .i64 ti, .int .i64 bg, .int .i64 fi, .string ky]) := Lib.hid (CR.out.far (p := ⟨g, 0, none⟩) (by show w.heap.size ≠ g; omega) _)
  have HW := Lib.hid hW; clear hW
  go_enter Tryz.func34, Tryz.ntmps34
  go_upto_region 1 with fail
  rw [← HW.out]
  go_upto_region 2 with fail
  try rw [hw1]
  have s1 : w.heap.size < (W.setCell ⟨g, 0, none⟩ (.int .i64 (s.sq + 1))).heap.size := by rw [size_setCell]; exact s0
  clear k0 f0 HF CR
  generalize W.setCell ⟨g, 0, none⟩ (.int .i64 (s.sq + 1)) = V at *
  have r0 := HC1.out 0 _ rfl
  simp only [Nat.zero_add] at r0
  go_wp2_with fail
  refine (ruleOf_5 V).mono ?_
  rintro e w3 ⟨rfl, hb3⟩
  obtain ⟨w4, hw4⟩ : ∃ w4, w4 = w3.alloc (.cells #[.func (.func 104) #[] #[], .func (.func 105) #[] #[], .func (.func 106) #[] #[]] 116) := ⟨_, rfl⟩
  have CU : Hid (Cells w4 w3.heap.size 0 [.func (.func 104) #[] #[], .func (.func 105) #[] #[], .func (.func 106) #[] #[]]) := Lib.hid (by rw [hw4]; exact Cells.new w3 _ _)
  have hb4 : Below V.heap.size V w4 := by rw [hw4]; exact hb3.alloc hb3.size _
  have hs4 : w3.heap.size < w4.heap.size := by rw [hw4]; simp
  have hs3 : V.heap.size ≤ w3.heap.size := hb3.size
  have b4 : Hid (LTurn g A A2 m w w4) := Lib.hid (HT1.out.next hb4)
  have L4 := Lib.hid ((HL1.out.kept hb4).toLed (fun _ => rfl))
  have CR4 := Lib.hid (HC1.out.below hb4 s1)
  have HW4 := Lib.hid hw4; clear hw4 r0 hb3
  go_upto_region 3 with fail
  rw [← HW4.out]
  have u1 := CU.out 1 _ rfl
  have q0 := CR4.out 0 _ rfl
  have q1 := CR4.out 1 _ rfl
  have q2 := CR4.out 2 _ rfl
  have q3 := CR4.out 3 _ rfl
  have q4 := CR4.out 4 _ rfl
  have q5 := CR4.out 5 _ rfl
  simp only [Nat.zero_add] at u1 q0 q1 q2 q3 q4 q5
  go_wp2_with fail
  refine (takesPurge_any base g { s with sq := s.sq + 1 } A c A2 c2 m n w4 L4.out (⟨5, tk, ti, bg, fi, ky⟩ : GRec) hl2).mono ?_
  rintro e w5 ⟨b, hb5, rfl, hbl5⟩
  have HT : Hid (b = true ↔ TakeP s (⟨5, tk, ti, bg, fi, ky⟩ : GRec)) := Lib.hid (hb5.trans take_iff_5.symm)
  have L5 := Lib.hid ((L4.out.toF.kept hbl5).toLed (fun _ => rfl))
  have T5 : Hid (LTurn g A A2 m w w5) := Lib.hid (b4.out.next hbl5)
  clear hb5 u1 q0 q1 q2 q3 q4 q5
  cases b
  · have HR : Hid (AplP s (⟨5, tk, ti, bg, fi, ky⟩ : GRec) { s with sq := s.sq + 1 } false) := Lib.hid (.inr ⟨fun h => absurd (HT.out.2 h) (by decide), rfl, rfl⟩)
    go_wp2
    go_ret
    exact ⟨_, false, HR.out, rfl, A, c, A2, c2, n, L5.out, T5.out⟩
  · have HB : Hid (TakeP s (⟨5, tk, ti, bg, fi, ky⟩ : GRec)) := Lib.hid (HT.out.1 rfl)
    have u2 := (CU.out.below hbl5 hs4) 2 _ rfl
    have CR5 := Lib.hid (CR4.out.below hbl5 (by omega))
    have q0 := CR5.out 0 _ rfl
    have q1 := CR5.out 1 _ rfl
    have q2 := CR5.out 2 _ rfl
    have q3 := CR5.out 3 _ rfl
    have q4 := CR5.out 4 _ rfl
    have q5 := CR5.out 5 _ rfl
    simp only [Nat.zero_add] at u2 q0 q1 q2 q3 q4 q5
    go_wp2_with fail
    refine (purge_any base g { s with sq := s.sq + 1 } A c A2 c2 m n w5 L5.out (⟨5, tk, ti, bg, fi, ky⟩ : GRec) hks hl2 hN (by have h := take_iff_5.1 HB.out; obtain ⟨t, h1, h2⟩ := List.any_eq_true.1 h; exact ⟨t, h1, of_decide_eq_true h2⟩)).mono ?_
    rintro e w6 ⟨rfl, A5, k5, A6, k6, n', hL6, hT6, h1, h2⟩
    have HR : Hid (DoneA base g A A2 m w s (⟨5, tk, ti, bg, fi, ky⟩ : GRec) (.returned (.bool true)) w6) := Lib.hid ⟨_, true, .inl ⟨HB.out, rfl, rfl⟩, rfl, A5, k5, A6, k6, n', hL6, LTurn.trans T5.out hT6 (.inl rfl) (.inl rfl)⟩
    clear hL6 hT6 u2 q0 q1 q2 q3 q4 q5
    go_wp2
    go_ret
    exact HR.out

theorem apply_any (base g : Nat) (s : GSt) (A : Option Addr) (c : Nat) (A2 : Option Addr) (c2 m n : Nat) (w : World) (hL : Led base g w s A c A2 c2 m n) (r : GRec) (hl : s.ents.length ≤ 1048576) (hl2 : s.tmbs.length ≤ 1048576) (hq : 0 ≤ s.sq ∧ s.sq ≤ 999999) (hN : keysN s) (hp : Paths w) (hz : 1 < base) (hw : Tab3 0 wid w) (hz2 : 0 < base) (hr : RecP r) (hks : r.key.size ≤ 1048576) :
    Calls Tryz.prog 34 #[.pointer (some ⟨g, 0, none⟩), .agg #[.int .i64 r.kind, .int .i64 r.tok, .int .i64 r.tier, .int .i64 r.beg, .int .i64 r.fin, .string r.key]] w (DoneA base g A A2 m w s r) := by
  obtain ⟨kd, tk, ti, bg, fi, ky⟩ := r
  rcases hr with ⟨h0, h1, h2, ⟨a, b, h3⟩, h4, h5⟩ | ⟨h0, h⟩ | ⟨h0, h1, h2, ⟨a, b, h3⟩, h4, h5⟩ | ⟨h0, h1, ⟨a, b, h3⟩, h4, h5⟩ | ⟨h0, h⟩ <;> (dsimp only at h0; subst h0)
  · exact apply_1 base g s A c A2 c2 m n w hL hl hl2 hq hN hp hz hw hz2 tk ti bg fi ky ⟨_, a, b, h3⟩ h3.tier hks
  · exact apply_2 base g s A c A2 c2 m n w hL hl hl2 hq hN hp hz hw hz2 tk ti bg fi ky
  · exact apply_3 base g s A c A2 c2 m n w hL hl hl2 hq hN hp hz hw hz2 tk ti bg fi ky (by have := h3.tier; dsimp only [GRec.ent] at this h2; omega) ⟨_, a, b, h3⟩ (by have := rngB_iff.1 h5; dsimp only [GRec.ent] at this; omega) (by have := rngB_iff.1 h5; dsimp only [GRec.ent] at this; omega) hks
  · exact apply_4 base g s A c A2 c2 m n w hL hl hl2 hq hN hp hz hw hz2 tk ti bg fi ky h3.tier hks
  · exact apply_5 base g s A c A2 c2 m n w hL hl hl2 hq hN hp hz hw hz2 tk ti bg fi ky hks

end Go.Proofs.YtpfanmcjlfdaiaaGreatDoorR

/- Contract of the program's ApplyRecord. Conditions: lengths. -/
namespace Go.Proofs.YtpfanmcjlfdaiaaGreatDoorR
open Go.ChangeShapes Go.WideShapes Go.ChangeAt Go.RowKit Go.Deep Go.Joins Go.Maps
set_option linter.unusedVariables false
set_option linter.unusedSimpArgs false

set_option maxRecDepth 100000 in
set_option maxHeartbeats 4000000 in
theorem applyRecord_any (A : Option Addr) (c : Nat) (A2 : Option Addr) (c2 : Nat) (s : GSt) (r : GRec) (B : Nat) (w : World) (h : StAt w B A A2 s) (hB : B ≤ w.heap.size) (hf : ∀ o ∈ s.ents, o.fit) (hf2 : ∀ o ∈ s.tmbs, o.fit) (hl : s.ents.length ≤ 1048576) (hl2 : s.tmbs.length ≤ 1048576) (hky : r.key.size ≤ 1048576) (hp : Paths w) (hz : 1 < w.heap.size) (hw : Tab3 0 wid w) (hz2 : 0 < w.heap.size) :
    Calls Tryz.prog 10 #[.agg #[.int .i64 s.sq, .int .i64 s.fe, .slice A s.ents.length c, .slice A2 s.tmbs.length c2, .int .i64 s.lo.a, .int .i64 s.lo.b, .int .i64 s.lo.c, .int .i64 s.hi.a, .int .i64 s.hi.b, .int .i64 s.hi.c], .agg #[.int .i64 r.kind, .int .i64 r.tok, .int .i64 r.tier, .int .i64 r.beg, .int .i64 r.fin, .string r.key]] w (AplAns s r w) := by
  have H := Lib.hid h; clear h
  have Hf := Lib.hid hf; clear hf
  have Hf2 := Lib.hid hf2; clear hf2
  have HP : Hid (∀ w', Below w.heap.size w w' → Paths w' ∧ 1 < w'.heap.size ∧ Tab3 0 wid w' ∧ 0 < w'.heap.size) := Lib.hid (fun w' h => ⟨hp.below h hz, Nat.lt_of_lt_of_le hz h.size, fun i hi => (h.cell (p := ⟨0, i, none⟩) hz2).trans (hw i hi), Nat.lt_of_lt_of_le hz2 h.size⟩)
  clear hp hz hw hz2
  go_enter Tryz.func10, Tryz.ntmps10
  go_upto_region 1 with fail
  obtain ⟨W, hW⟩ : ∃ W, W = ((w.alloc (.cells #[.int .i64 s.sq, .int .i64 s.fe, .slice A s.ents.length c, .slice A2 s.tmbs.length c2, .int .i64 s.lo.a, .int .i64 s.lo.b, .int .i64 s.lo.c, .int .i64 s.hi.a, .int .i64 s.hi.b, .int .i64 s.hi.c] 34)).alloc (.cells #[.int .i64 r.kind, .int .i64 r.tok, .int .i64 r.tier, .int .i64 r.beg, .int .i64 r.fin, .string r.key] 38)).alloc (.cells #[.int .i64 0, .int .i64 0, .slice none 0 0, .slice none 0 0, .int .i64 0, .int .i64 0, .int .i64 0, .int .i64 0, .int .i64 0, .int .i64 0] 34) := ⟨_, rfl⟩
  have p0 : ApW w.heap.size W [.int .i64 s.sq, .int .i64 s.fe, .slice A s.ents.length c, .slice A2 s.tmbs.length c2, .int .i64 s.lo.a, .int .i64 s.lo.b, .int .i64 s.lo.c, .int .i64 s.hi.a, .int .i64 s.hi.b, .int .i64 s.hi.c] [.int .i64 r.kind, .int .i64 r.tok, .int .i64 r.tier, .int .i64 r.beg, .int .i64 r.fin, .string r.key] [.int .i64 0, .int .i64 0, .slice none 0 0, .slice none 0 0, .int .i64 0, .int .i64 0, .int .i64 0, .int .i64 0, .int .i64 0, .int .i64 0] := by rw [hW]; exact ApW.new w (.int .i64 s.sq) (.int .i64 s.fe) (.slice A s.ents.length c) (.slice A2 s.tmbs.length c2) (.int .i64 s.lo.a) (.int .i64 s.lo.b) (.int .i64 s.lo.c) (.int .i64 s.hi.a) (.int .i64 s.hi.b) (.int .i64 s.hi.c) (.int .i64 r.kind) (.int .i64 r.tok) (.int .i64 r.tier) (.int .i64 r.beg) (.int .i64 r.fin) (.string r.key) _ _ _
  have b0 : Below w.heap.size w W := by rw [hW]; exact bal (bal (bal (Below.refl _ _) _) _) _
  rw [← hW]
  clear hW
  generalize (Value.agg #[.int .i64 s.sq, .int .i64 s.fe, .slice A s.ents.length c, .slice A2 s.tmbs.length c2, .int .i64 s.lo.a, .int .i64 s.lo.b, .int .i64 s.lo.c, .int .i64 s.hi.a, .int .i64 s.hi.b, .int .i64 s.hi.c]) = va
  generalize (Value.agg #[.int .i64 r.kind, .int .i64 r.tok, .int .i64 r.tier, .int .i64 r.beg, .int .i64 r.fin, .string r.key]) = vr
  have P0 := Lib.hid p0; clear p0
  generalize hx0 : w.heap.size = x0 at *
  have Hx0 := Lib.hid hx0; clear hx0
  have hW0 : x0 ≤ W.heap.size := by have := P0.out.sz; omega
  obtain ⟨c0, c1, c2x, c3, c4, c5, c6, c7, c8, c9⟩ := P0.out.cs.ten
  obtain ⟨q0, q1, q2, q3, q4, q5⟩ := (show RecAt W (x0 + 1) r from P0.out.cr).cells
  go_wp2_with fail
  refine (stRight_any A c A2 c2 s x0 W (H.out.below b0 hB |>.more hB) hW0 Hf.out Hf2.out hl hl2 (HP.out W b0).1 (HP.out W b0).2.1).mono ?_
  rintro e w1 ⟨b, hb, rfl, hb1⟩
  have HB1 := Lib.hid hb; clear hb
  have b1 : Below x0 w w1 := b0.trans (hb1.mono hW0)
  have P1 := Lib.hid (P0.out.below hb1 P0.out.sz)
  clear P0 b0 hb1 c0 c1 c2x c3 c4 c5 c6 c7 c8 c9 q0 q1 q2 q3 q4 q5
  have hw1 : x0 ≤ w1.heap.size := by have := P1.out.sz; omega
  obtain ⟨c0, c1, c2x, c3, c4, c5, c6, c7, c8, c9⟩ := P1.out.cs.ten
  obtain ⟨q0, q1, q2, q3, q4, q5⟩ := (show RecAt w1 (x0 + 1) r from P1.out.cr).cells
  cases b
  · have HN : Hid (¬ (StP s ∧ RecP r)) := Lib.hid (fun h => by have := HB1.out.2 h.1; cases this)
    clear HB1
    obtain ⟨z0, z1, z2, z3, z4, z5, z6, z7, z8, z9⟩ := P1.out.cz.ten
    have y0 := P1.out.fz 0
    have y1 := P1.out.fz 1
    have y2 := P1.out.fz 2
    have y3 := P1.out.fz 3
    have y4 := P1.out.fz 4
    have y5 := P1.out.fz 5
    have y6 := P1.out.fz 6
    have y7 := P1.out.fz 7
    have y8 := P1.out.fz 8
    have y9 := P1.out.fz 9
    go_wp2
    refine bodyPost_ret (v := .tuple #[.agg #[.int .i64 0, .int .i64 0, .slice none 0 0, .slice none 0 0, .int .i64 0, .int .i64 0, .int .i64 0, .int .i64 0, .int .i64 0, .int .i64 0], .bool false, .int .i64 1]) (by simp [results, Tryz.results10, go_sem, *]) rfl ⟨_, false, 1, _, _, _, _, .inl ⟨HN.out, rfl, rfl, rfl⟩, rfl, ?_⟩
    rw [Hx0.out]
    exact st_end10 (zSt_at w1) (zSt_own (x0 + 3) w1) (Nat.le_refl _) (Nat.le_refl _) (Nat.le_refl _) b1
  have HS : Hid (StP s) := Lib.hid (HB1.out.1 rfl)
  clear HB1
  go_wp2_with fail
  refine (recordOK_any r w1 (by omega) (HP.out w1 b1).1 (HP.out w1 b1).2.1).mono ?_
  rintro e w2 ⟨b, hb, rfl, hb2⟩
  have HB2 := Lib.hid hb; clear hb
  have b2 : Below x0 w w2 := b1.trans (hb2.mono hw1)
  have P2 := Lib.hid (P1.out.below hb2 P1.out.sz)
  clear P1 b1 hb2 c0 c1 c2x c3 c4 c5 c6 c7 c8 c9 q0 q1 q2 q3 q4 q5
  have hw2 : x0 ≤ w2.heap.size := by have := P2.out.sz; omega
  obtain ⟨c0, c1, c2x, c3, c4, c5, c6, c7, c8, c9⟩ := P2.out.cs.ten
  obtain ⟨q0, q1, q2, q3, q4, q5⟩ := (show RecAt w2 (x0 + 1) r from P2.out.cr).cells
  cases b
  · have HN : Hid (¬ (StP s ∧ RecP r)) := Lib.hid (fun h => by have := HB2.out.2 h.2; cases this)
    clear HB2
    obtain ⟨z0, z1, z2, z3, z4, z5, z6, z7, z8, z9⟩ := P2.out.cz.ten
    have y0 := P2.out.fz 0
    have y1 := P2.out.fz 1
    have y2 := P2.out.fz 2
    have y3 := P2.out.fz 3
    have y4 := P2.out.fz 4
    have y5 := P2.out.fz 5
    have y6 := P2.out.fz 6
    have y7 := P2.out.fz 7
    have y8 := P2.out.fz 8
    have y9 := P2.out.fz 9
    go_wp2
    refine bodyPost_ret (v := .tuple #[.agg #[.int .i64 0, .int .i64 0, .slice none 0 0, .slice none 0 0, .int .i64 0, .int .i64 0, .int .i64 0, .int .i64 0, .int .i64 0, .int .i64 0], .bool false, .int .i64 1]) (by simp [results, Tryz.results10, go_sem, *]) rfl ⟨_, false, 1, _, _, _, _, .inl ⟨HN.out, rfl, rfl, rfl⟩, rfl, ?_⟩
    rw [Hx0.out]
    exact st_end10 (zSt_at w2) (zSt_own (x0 + 3) w2) (Nat.le_refl _) (Nat.le_refl _) (Nat.le_refl _) b2
  have HR : Hid (RecP r) := Lib.hid (HB2.out.1 rfl)
  clear HB2
  by_cases hq9 : s.sq = 999999
  · have D : (s.sq == 999999) = true := by simpa using hq9
    have HQ9 := Lib.hid hq9; clear hq9
    have HFU : Hid (FullP s) := Lib.hid (.inl HQ9.out)
    go_wp2_with fail
    refine (copied_any A c A2 c2 s x0 w2 ((H.out.below b2 hB).more hB) hw2 hl hl2).mono ?_
    rintro e w9 ⟨A1, k1, A3, k3, rfl, o1, o3, hne, hb9, hyz⟩
    have b9 : Below x0 w w9 := b2.trans (hb9.mono hw2)
    have P9 := Lib.hid (P2.out.below hb9 P2.out.sz)
    have O1 := Lib.hid o1; have O3 := Lib.hid o3; have HNE := Lib.hid hne
    have hy9 : x0 + 3 ≤ w2.heap.size + 2 := by have := P2.out.sz; omega
    clear P2 b2 hb9 o1 o3 hne c0 c1 c2x c3 c4 c5 c6 c7 c8 c9 q0 q1 q2 q3 q4 q5
    generalize w2.heap.size + 2 = y at *
    obtain ⟨z0, z1, z2, z3, z4, z5, z6, z7, z8, z9⟩ := P9.out.cz.ten
    have y0 := P9.out.fz 0
    have y1 := P9.out.fz 1
    have y2 := P9.out.fz 2
    have y3 := P9.out.fz 3
    have y4 := P9.out.fz 4
    have y5 := P9.out.fz 5
    have y6 := P9.out.fz 6
    have y7 := P9.out.fz 7
    have y8 := P9.out.fz 8
    have y9 := P9.out.fz 9
    go_wp2
    refine bodyPost_ret (v := .tuple #[.agg #[.int .i64 s.sq, .int .i64 s.fe, .slice A1 s.ents.length k1, .slice A3 s.tmbs.length k3, .int .i64 s.lo.a, .int .i64 s.lo.b, .int .i64 s.lo.c, .int .i64 s.hi.a, .int .i64 s.hi.b, .int .i64 s.hi.c], .bool false, .int .i64 7]) (by simp [results, Tryz.results10, go_sem, *]) rfl ⟨_, false, 7, _, _, _, _, .inr (.inl ⟨⟨HS.out, HR.out⟩, HFU.out, rfl, rfl, rfl⟩), rfl, ?_⟩
    rw [Hx0.out]
    exact apl_end O1.out O3.out HNE.out hy9 b9
  have D : (s.sq == 999999) = false := beq_false_of_ne hq9
  have HQ9 := Lib.hid hq9; clear hq9
  have HQ : Hid (0 ≤ s.sq ∧ s.sq ≤ 999999) := Lib.hid (inB_iff.1 HS.out.1)
  have HLS : Hid (s.ents.length + s.tmbs.length ≤ 4096) := Lib.hid HS.out.2.2.1
  go_wp2_with fail
  refine (stSize_any A c A2 c2 s w2 hl hl2).mono ?_
  rintro e w3 ⟨rfl, hb3⟩
  have b3 : Below x0 w w3 := b2.trans (hb3.mono hw2)
  have P3 := Lib.hid (P2.out.below hb3 P2.out.sz)
  clear P2 b2 hb3 c0 c1 c2x c3 c4 c5 c6 c7 c8 c9 q0 q1 q2 q3 q4 q5
  have hw3 : x0 ≤ w3.heap.size := by have := P3.out.sz; omega
  obtain ⟨c0, c1, c2x, c3, c4, c5, c6, c7, c8, c9⟩ := P3.out.cs.ten
  obtain ⟨q0, q1, q2, q3, q4, q5⟩ := (show RecAt w3 (x0 + 1) r from P3.out.cr).cells
  by_cases h4 : s.ents.length + s.tmbs.length = 4096
  · have D4 : (((s.ents.length + s.tmbs.length : Nat) : Int) == 4096) = true := by rw [h4]; rfl
    have H4 := Lib.hid h4; clear h4
    have HFU : Hid (FullP s) := Lib.hid (.inr H4.out)
    go_wp2_with fail
    refine (copied_any A c A2 c2 s x0 w3 ((H.out.below b3 hB).more hB) hw3 hl hl2).mono ?_
    rintro e w9 ⟨A1, k1, A3, k3, rfl, o1, o3, hne, hb9, hyz⟩
    have b9 : Below x0 w w9 := b3.trans (hb9.mono hw3)
    have P9 := Lib.hid (P3.out.below hb9 P3.out.sz)
    have O1 := Lib.hid o1; have O3 := Lib.hid o3; have HNE := Lib.hid hne
    have hy9 : x0 + 3 ≤ w3.heap.size + 2 := by have := P3.out.sz; omega
    clear P3 b3 hb9 o1 o3 hne c0 c1 c2x c3 c4 c5 c6 c7 c8 c9 q0 q1 q2 q3 q4 q5
    generalize w3.heap.size + 2 = y at *
    obtain ⟨z0, z1, z2, z3, z4, z5, z6, z7, z8, z9⟩ := P9.out.cz.ten
    have y0 := P9.out.fz 0
    have y1 := P9.out.fz 1
    have y2 := P9.out.fz 2
    have y3 := P9.out.fz 3
    have y4 := P9.out.fz 4
    have y5 := P9.out.fz 5
    have y6 := P9.out.fz 6
    have y7 := P9.out.fz 7
    have y8 := P9.out.fz 8
    have y9 := P9.out.fz 9
    go_wp2
    refine bodyPost_ret (v := .tuple #[.agg #[.int .i64 s.sq, .int .i64 s.fe, .slice A1 s.ents.length k1, .slice A3 s.tmbs.length k3, .int .i64 s.lo.a, .int .i64 s.lo.b, .int .i64 s.lo.c, .int .i64 s.hi.a, .int .i64 s.hi.b, .int .i64 s.hi.c], .bool false, .int .i64 7]) (by simp [results, Tryz.results10, go_sem, *]) rfl ⟨_, false, 7, _, _, _, _, .inr (.inl ⟨⟨HS.out, HR.out⟩, HFU.out, rfl, rfl, rfl⟩), rfl, ?_⟩
    rw [Hx0.out]
    exact apl_end O1.out O3.out HNE.out hy9 b9
  have D4 : (((s.ents.length + s.tmbs.length : Nat) : Int) == 4096) = false := beq_false_of_ne (by omega)
  have HNF : Hid (¬ FullP s) := Lib.hid (fun h => h.elim HQ9.out h4)
  clear h4
  go_wp2_with fail
  refine (open_any A c A2 c2 s x0 w3 ((H.out.below b3 hB).more hB) hw3 Hf.out Hf2.out hl hl2 (by have := HLS.out; omega)).mono ?_
  rintro e w4 ⟨g, A1, k1, A3, k3, m, n, rfl, hL4, hb4⟩
  have b4 : Below x0 w w4 := b3.trans (hb4.mono hw3)
  have P4 := Lib.hid (P3.out.below hb4 P3.out.sz)
  have hgz : x0 + 3 ≤ w3.heap.size := P3.out.sz
  have HPB := Lib.hid (HP.out w3 b3)
  have L4 := Lib.hid hL4
  clear P3 b3 c0 c1 c2x c3 c4 c5 c6 c7 c8 c9 q0 q1 q2 q3 q4 q5 hL4
  have hw4 : x0 ≤ w4.heap.size := by have := P4.out.sz; omega
  obtain ⟨c0, c1, c2x, c3, c4, c5, c6, c7, c8, c9⟩ := P4.out.cs.ten
  obtain ⟨q0, q1, q2, q3, q4, q5⟩ := (show RecAt w4 (x0 + 1) r from P4.out.cr).cells
  go_wp2_with fail
  refine (apply_any w3.heap.size g s A1 k1 A3 k3 m n w4 L4.out r hl hl2 HQ.out HS.out.2.2.2.2.2 (HP.out w4 b4).1 HPB.out.2.1 (HP.out w4 b4).2.2.1 HPB.out.2.2.2 HR.out hky).mono ?_
  rintro e w5 ⟨x, b, hx, rfl, A5, k5, A6, k6, n', hL5, hT5⟩
  have hb5 : Below w3.heap.size w4 w5 := hT5.led L4.out
  have b5 : Below x0 w w5 := b4.trans (hb5.mono hw3)
  have P5 := Lib.hid (P4.out.below hb5 hgz)
  have HX := Lib.hid hx
  have O1 := Lib.hid hL5.oe
  have O3 := Lib.hid hL5.ot
  have HNE := Lib.hid hL5.et
  have hL5g := hL5.gb
  obtain ⟨d0, d1, d2, d3, d4, d5, d6, d7, d8, d9⟩ := (led10 hL5).ten
  clear P4 b4 hT5 hx L4 hb5 hb4 c0 c1 c2x c3 c4 c5 c6 c7 c8 c9 q0 q1 q2 q3 q4 q5 HPB
  clear hL5
  have hgn : g ≠ x0 + 2 := by have := hL5g; omega
  obtain ⟨z0, z1, z2, z3, z4, z5, z6, z7, z8, z9⟩ := P5.out.cz.ten
  have y0 := P5.out.fz 0
  have y1 := P5.out.fz 1
  have y2 := P5.out.fz 2
  have y3 := P5.out.fz 3
  have y4 := P5.out.fz 4
  have y5 := P5.out.fz 5
  have y6 := P5.out.fz 6
  have y7 := P5.out.fz 7
  have y8 := P5.out.fz 8
  have y9 := P5.out.fz 9
  go_wp2
  refine bodyPost_ret (v := .tuple #[.agg #[.int .i64 x.sq, .int .i64 x.fe, .slice A5 x.ents.length k5, .slice A6 x.tmbs.length k6, .int .i64 x.lo.a, .int .i64 x.lo.b, .int .i64 x.lo.c, .int .i64 x.hi.a, .int .i64 x.hi.b, .int .i64 x.hi.c], .bool b, .int .i64 0]) (by simp [results, Tryz.results10, go_sem, *]) rfl ⟨_, b, 0, _, _, _, _, .inr (.inr ⟨⟨HS.out, HR.out⟩, HNF.out, HX.out, rfl⟩), rfl, ?_⟩
  rw [Hx0.out]
  exact apl_end O1.out O3.out HNE.out hgz b5

end Go.Proofs.YtpfanmcjlfdaiaaGreatDoorR

/- Behind a call of ApplyRecord: the answer in its box; what marks keep. No Go text is walked here. -/
namespace Go.Proofs.YtpfanmcjlfdaiaaGreatDoorR
open Go.ChangeShapes Go.WideShapes Go.ChangeAt Go.RowKit Go.Deep Go.Joins Go.Maps
set_option linter.unusedVariables false
set_option linter.unusedSimpArgs false

/-- behind a call: the answer lies in its box -/
structure AnsC (V wx : World) (nb : Nat) (A : Option Addr) (c : Nat) (A2 : Option Addr) (c2 : Nat) (x : GSt) : Prop where
  bx : Cells wx nb 0 [.int .i64 x.sq, .int .i64 x.fe, .slice A x.ents.length c, .slice A2 x.tmbs.length c2, .int .i64 x.lo.a, .int .i64 x.lo.b, .int .i64 x.lo.c, .int .i64 x.hi.a, .int .i64 x.hi.b, .int .i64 x.hi.c]
  st : StAt wx wx.heap.size A A2 x
  ow : StOwn V.heap.size wx A A2
  be : Below V.heap.size V wx
  n1 : V.heap.size ≤ nb
  n2 : nb < wx.heap.size
  ne : blk A ≠ some nb
  ne2 : blk A2 ≠ some nb

theorem st_near {w : World} {B y nb : Nat} {A A2 : Option Addr} {x : GSt} (h : StAt w B A A2 x) (o : StOwn y w A A2) (h1 : blk A ≠ some nb) (h2 : blk A2 ≠ some nb) {p : Addr} (hp : p.block = nb) (u : Value) : StAt (w.setCell p u) B A A2 x ∧ StOwn y (w.setCell p u) A A2 :=
  ⟨⟨Sl.far h.1 (fun b e e2 => h1 (by rw [e, e2, hp])) u, Sl.far h.2 (fun b e e2 => h2 (by rw [e, e2, hp])) u⟩, o.1.setCell p u, o.2.1.setCell p u, fun b e => ⟨(o.2.2.1 b e).1, by rw [size_setCell]; exact (o.2.2.1 b e).2⟩, fun b e => ⟨(o.2.2.2.1 b e).1, by rw [size_setCell]; exact (o.2.2.2.1 b e).2⟩, o.2.2.2.2⟩

theorem ansC_set {V w4 : World} {nb : Nat} {A : Option Addr} {c : Nat} {A2 : Option Addr} {c2 : Nat} {x : GSt} {zs : List Value} (hzs : zs.length = 10) (hb : Below V.heap.size V w4) (n1 : V.heap.size ≤ nb) (n2 : nb < w4.heap.size) (cz : Cells w4 nb 0 zs) (h0 : StAt w4 w4.heap.size A A2 x) (o0 : StOwn V.heap.size w4 A A2) (ne : blk A ≠ some nb) (ne2 : blk A2 ≠ some nb) :
    AnsC V ((((((((((w4.setCell ⟨nb, 0, none⟩ (.int .i64 x.sq)).setCell ⟨nb, 1, none⟩ (.int .i64 x.fe)).setCell ⟨nb, 2, none⟩ (.slice A x.ents.length c)).setCell ⟨nb, 3, none⟩ (.slice A2 x.tmbs.length c2)).setCell ⟨nb, 4, none⟩ (.int .i64 x.lo.a)).setCell ⟨nb, 5, none⟩ (.int .i64 x.lo.b)).setCell ⟨nb, 6, none⟩ (.int .i64 x.lo.c)).setCell ⟨nb, 7, none⟩ (.int .i64 x.hi.a)).setCell ⟨nb, 8, none⟩ (.int .i64 x.hi.b)).setCell ⟨nb, 9, none⟩ (.int .i64 x.hi.c)) nb A c A2 c2 x := by
  obtain ⟨h1, o1⟩ := st_near h0 o0 ne ne2 (p := ⟨nb, 0, none⟩) rfl (.int .i64 x.sq)
  obtain ⟨h2, o2⟩ := st_near h1 o1 ne ne2 (p := ⟨nb, 1, none⟩) rfl (.int .i64 x.fe)
  obtain ⟨h3, o3⟩ := st_near h2 o2 ne ne2 (p := ⟨nb, 2, none⟩) rfl (.slice A x.ents.length c)
  obtain ⟨h4, o4⟩ := st_near h3 o3 ne ne2 (p := ⟨nb, 3, none⟩) rfl (.slice A2 x.tmbs.length c2)
  obtain ⟨h5, o5⟩ := st_near h4 o4 ne ne2 (p := ⟨nb, 4, none⟩) rfl (.int .i64 x.lo.a)
  obtain ⟨h6, o6⟩ := st_near h5 o5 ne ne2 (p := ⟨nb, 5, none⟩) rfl (.int .i64 x.lo.b)
  obtain ⟨h7, o7⟩ := st_near h6 o6 ne ne2 (p := ⟨nb, 6, none⟩) rfl (.int .i64 x.lo.c)
  obtain ⟨h8, o8⟩ := st_near h7 o7 ne ne2 (p := ⟨nb, 7, none⟩) rfl (.int .i64 x.hi.a)
  obtain ⟨h9, o9⟩ := st_near h8 o8 ne ne2 (p := ⟨nb, 8, none⟩) rfl (.int .i64 x.hi.b)
  obtain ⟨h10, o10⟩ := st_near h9 o9 ne ne2 (p := ⟨nb, 9, none⟩) rfl (.int .i64 x.hi.c)
  refine ⟨?_, h10.more (by simp only [size_setCell]; exact Nat.le_refl _), o10, ?_, n1, by simp only [size_setCell]; exact n2, ne, ne2⟩
  · match zs, hzs, cz with
    | [_, _, _, _, _, _, _, _, _, _], _, cz =>
      have q := (((((((((cz.set (k := 0) (by simp) (.int .i64 x.sq)).set (k := 1) (by simp) (.int .i64 x.fe)).set (k := 2) (by simp) (.slice A x.ents.length c)).set (k := 3) (by simp) (.slice A2 x.tmbs.length c2)).set (k := 4) (by simp) (.int .i64 x.lo.a)).set (k := 5) (by simp) (.int .i64 x.lo.b)).set (k := 6) (by simp) (.int .i64 x.lo.c)).set (k := 7) (by simp) (.int .i64 x.hi.a)).set (k := 8) (by simp) (.int .i64 x.hi.b)).set (k := 9) (by simp) (.int .i64 x.hi.c)
      simp only [Nat.zero_add] at q
      exact q
  · repeat' first | with_reducible exact hb | (with_reducible refine Below.setCell ?_ n1 _)

theorem st_keep {w w' : World} {x y : Nat} {A A2 : Option Addr} {s : GSt} (hk : ∀ i, y ≤ i → i < w.heap.size → w'.heap[i]? = w.heap[i]?) (hs : w.heap.size ≤ w'.heap.size) (h : StAt w x A A2 s) (o : StOwn y w A A2) : StAt w' x A A2 s ∧ StOwn y w' A A2 :=
  ⟨⟨h.1.keep (fun b i e _ => World.cell?_of_block (a := ⟨b, i, none⟩) (hk b (o.2.2.1 b e).1 (o.2.2.1 b e).2)), h.2.keep (fun b i e _ => World.cell?_of_block (a := ⟨b, i, none⟩) (hk b (o.2.2.2.1 b e).1 (o.2.2.2.1 b e).2))⟩,
   fun b e i => (World.frozen?_of_block (a := ⟨b, i, none⟩) (hk b (o.2.2.1 b e).1 (o.2.2.1 b e).2)).trans (o.1 b e i), fun b e i => (World.frozen?_of_block (a := ⟨b, i, none⟩) (hk b (o.2.2.2.1 b e).1 (o.2.2.2.1 b e).2)).trans (o.2.1 b e i), fun b e => ⟨(o.2.2.1 b e).1, Nat.lt_of_lt_of_le (o.2.2.1 b e).2 hs⟩, fun b e => ⟨(o.2.2.2.1 b e).1, Nat.lt_of_lt_of_le (o.2.2.2.1 b e).2 hs⟩, o.2.2.2.2⟩

theorem cells_keep {w w' : World} {b : Nat} {vs : List Value} (h : Cells w b 0 vs) (hk : w'.heap[b]? = w.heap[b]?) : Cells w' b 0 vs := fun j v hv => (World.cell?_of_block (a := ⟨b, 0 + j, none⟩) hk).trans (h j v hv)

theorem two_keep {w w1 w' : World} {A A2 : Option Addr} (g1 : w.grownBy w1 (blk A)) (g2 : w1.grownBy w' (blk A2)) : (∀ i, i < w.heap.size → blk A ≠ some i → blk A2 ≠ some i → w'.heap[i]? = w.heap[i]?) ∧ w.heap.size ≤ w'.heap.size :=
  ⟨fun i hi h1 h2 => (g2.block i (Nat.lt_of_lt_of_le hi g1.size) (fun e => h2 e.symm)).trans (g1.block i hi (fun e => h1 e.symm)), Nat.le_trans g1.size g2.size⟩

theorem two_below {w w1 w' : World} {A A2 : Option Addr} {x : Nat} (g1 : w.grownBy w1 (blk A)) (g2 : w1.grownBy w' (blk A2)) (hx : x ≤ w.heap.size) (o : StOwn x w A A2) : Below x w w' :=
  (below_of_grown g1 hx (fun b e => (o.2.2.1 b e).1)).trans (below_of_grown g2 (Nat.le_trans hx g1.size) (fun b e => (o.2.2.2.1 b e).1))

theorem AplVal.lens {s : GSt} {r : GRec} {x : GSt} {b : Bool} {z : Int} (h : AplVal s r x b z) (h1 : s.ents.length ≤ 1048576) (h2 : s.tmbs.length ≤ 1048576) : x.ents.length ≤ 1048576 ∧ x.tmbs.length ≤ 1048576 := by
  rcases h with ⟨_, rfl, _, _⟩ | ⟨_, _, rfl, _, _⟩ | ⟨⟨hs, _⟩, _, hx, _⟩
  · exact ⟨by simp [zSt], by simp [zSt]⟩
  · exact ⟨h1, h2⟩
  · have h4 := hs.2.2.1
    rcases hx with ⟨_, rfl, _⟩ | ⟨_, rfl, _⟩
    · have := appS_len s r
      omega
    · exact ⟨h1, h2⟩

theorem own_more {x y : Nat} {w : World} {A A2 : Option Addr} (h : StOwn y w A A2) (hx : x ≤ y) : StOwn x w A A2 := ⟨h.1, h.2.1, fun b e => ⟨Nat.le_trans hx (h.2.2.1 b e).1, (h.2.2.1 b e).2⟩, fun b e => ⟨Nat.le_trans hx (h.2.2.2.1 b e).1, (h.2.2.2.1 b e).2⟩, h.2.2.2.2⟩

theorem infoLS : (Tryz.prog.info? 26).map (·.size) = some 10 := by kernel_rfl

theorem infoLR : (Tryz.prog.info? 28).map (·.size) = some 6 := by kernel_rfl

theorem rngC {w w' : World} {b B : Nat} {L : List Value} (h : Cells w b 0 L) (hb : Below B w w') (hB : b < B) : w'.rangeAt b 0 L := fun j v hv => h.below hb hB j v hv

end Go.Proofs.YtpfanmcjlfdaiaaGreatDoorR
