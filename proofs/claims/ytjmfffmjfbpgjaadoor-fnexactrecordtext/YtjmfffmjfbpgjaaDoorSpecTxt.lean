/-
  Contracts of the model's l00Join over any slice of texts, l02Join (numbers with commas between), l02Text and AggText. Conditions: none beside lengths.
-/
import Derived.Test.YtjmfffmjfbpgjaaDoorNumTxt
import Derived.Test.YtjmfffmjfbpgjaaDoorAppG
namespace Go.Proofs.YtjmfffmjfbpgjaaDoor
open Go.ChangeShapes Go.WideShapes Go.ChangeAt Go.RowKit
set_option linter.unusedVariables false

set_option maxRecDepth 100000 in
theorem joinNone_any (A : Option Addr) (c : Nat) (sep : ByteArray) (w : World) : Calls Tryd.prog 79 #[.slice A 0 c, .string sep] w fun e w' => e = .returned (.string (joinT [] sep)) ∧ Below w.heap.size w w' := by
  have ez := Lib.hid (joinT_nil sep)
  go_enter Tryd.func79, Tryd.ntmps79
  go_wp2_with fail
  go_loopw [5, 6] (fun t i wr => i = .int .i64 0 ∧ t = .string ⟨#[]⟩ ∧ wr = w) (fun _ i _ => 0)
  case atStart => exact ⟨rfl, rfl, rfl⟩
  case round =>
    obtain ⟨rfl, rfl, rfl⟩ := hrel
    go_wp2
    go_ret
    exact ⟨by rw [ez.out]; rfl, Below.refl _ _⟩

theorem joinA_any (A : Option Addr) (c : Nat) (xs : List ByteArray) (sep : ByteArray) (B : Nat) (w : World) (h : TxtAt w B A xs) (hB : B ≤ w.heap.size) (hl : xs.length ≤ 1048576) (hz : (joinT xs sep).size ≤ 4611686018427387904) :
    Calls Tryd.prog 79 #[.slice A xs.length c, .string sep] w fun e w' => e = .returned (.string (joinT xs sep)) ∧ Below w.heap.size w w' := by
  by_cases hx : xs = []
  · subst hx
    exact joinNone_any A c sep w
  · obtain ⟨b, o, rfl, hb, _⟩ := TxtAt.at_ h (k := 0) (by cases xs <;> simp_all)
    exact join_any b o c xs sep w (fun j hj => TxtAt.cells h j _ (List.getElem?_eq_getElem hj)) (by omega) (by omega) hz

theorem txV_one (s : ByteArray) : ∀ u ∈ txV s, u.oneCell' = true := by
  intro u hu
  simp [txV] at hu
  subst hu; rfl

theorem new_txt (w : World) (s : ByteArray) (e : TypeId) : Sl txV 1 (w.alloc (.cells #[.string s] e)) (w.heap.size + 1) (some ⟨w.heap.size, 0, none⟩) [s] := by
  intro _
  refine ⟨w.heap.size, 0, rfl, by omega, fun k hk j v hv => ?_⟩
  obtain rfl : k = 0 := by simpa using hk
  rw [World.cell?_alloc_new]
  match j, hv with
  | 0, hv => simpa [txV] using hv
  | j + 1, hv => simp [txV] at hv

set_option maxRecDepth 100000 in
theorem l02Join_any (b o c : Nat) (ns : List Int) (w : World) (hc : ∀ (j : Nat) (h : j < ns.length), w.cell? ⟨b, o + j, none⟩ = some (.int .i64 ns[j])) (hb : b < w.heap.size) (hl : ns.length ≤ 1000) (hf : ∀ n ∈ ns, I64 n) :
    Calls Tryd.prog 54 #[.slice (some ⟨b, o, none⟩) ns.length c] w fun e w' => e = .returned (.string (joinT (ns.map numT) comma)) ∧ Below w.heap.size w w' := by
  have Hc := Lib.hid hc; clear hc
  have Hf := Lib.hid hf; clear hf
  go_enter Tryd.func54, Tryd.ntmps54
  go_wp2_with fail
  have o0 : OwnSl txV 1 9 w.heap.size (w.alloc (.cells #[] 9)) (.slice (some ⟨w.heap.size, 0, none⟩) 0 0) [] := own_empty _ _ _ w
  have hbw : Below w.heap.size w (w.alloc (.cells #[] 9)) := bal (Below.refl _ _) _
  generalize w.alloc (.cells #[] 9) = w0 at o0 hbw ⊢
  have O0 := Lib.hid o0; clear o0
  go_loopw [3, 4] (fun s i wr => ∃ (j : Nat) (A : Option Addr) (c : Nat), j ≤ ns.length ∧ i = .int .i64 j ∧ s = .slice A j c ∧ Hid (OwnSl txV 1 9 w.heap.size wr (.slice A j c) ((ns.take j).map numT)) ∧ Below w.heap.size w wr) (fun _ i _ => ns.length - (intOf i).toNat)
  case atStart => exact ⟨0, _, _, by omega, rfl, rfl, O0, hbw⟩
  case round =>
    clear O0 hbw
    obtain ⟨j, A, c2, hj, rfl, rfl, HO, hb1⟩ := hrel
    by_cases hlt : j < ns.length
    · have p0 : wr.cell? ⟨b, o + j, none⟩ = some (.int .i64 ns[j]) := (hb1.cell (p := ⟨b, o + j, none⟩) hb).trans (Hc.out j hlt)
      have HI := Lib.hid (Hf.out _ (List.getElem_mem hlt))
      go_wp2_with fail
      refine (digits_int ns[j] wr HI.out.1 HI.out.2).mono ?_
      rintro e w1 ⟨rfl, hb2⟩
      have hlx : ((ns.take j).map numT).length = j := by simp; omega
      have hO4 := (HO.out.below hb2).below (bal (Below.refl _ w1) (.cells #[.string (numT ns[j])] 9))
      have en : (ns.take (j + 1)).map numT = (ns.take j).map numT ++ [numT ns[j]] := by rw [List.take_succ_eq_append_getElem hlt, List.map_append]; rfl
      have EN := Lib.hid en; clear en
      generalize numT ns[j] = T at *
      obtain ⟨xs, hxs⟩ : ∃ xs, xs = (ns.take j).map numT := ⟨_, rfl⟩
      rw [← hxs] at hlx hO4 EN
      have HO4 := Lib.hid hO4; clear hO4 hxs
      have HN := Lib.hid (new_txt w1 T 9)
      have sz : w.heap.size ≤ w1.heap.size := Nat.le_trans hb1.size hb2.size
      have hb4 : Below w.heap.size w (w1.alloc (.cells #[.string T] 9)) := bal (bnext hb1 hb2) _
      have Hb4 := Lib.hid hb4; clear hb4 hb2 p0 HO
      subst hlx
      go_wp2_with (at_builtin; refine wpList_append_sl txV 1 16 (fun _ => rfl) txV_one 59 9 _ infoStr rfl (by omega) Tryd.underlying59 rfl _ _ rfl w.heap.size xs [T] (.slice A xs.length c2) rfl HO4.out (some ⟨w1.heap.size, 0, none⟩) 1 (w1.heap.size + 1) rfl HN.out (by simp [maxLen]; omega) (by simp; omega) (by simp; omega) ?_; intro v' w5 hO5 hg5 _; obtain ⟨A5, c5, rfl⟩ := hO5.form; have HO5 := Lib.hid hO5; clear hO5; have Hg5 := Lib.hid hg5; clear hg5)
      have hb5 : Below w.heap.size w w5 := Hb4.out.trans (below_of_grown Hg5.out (by simp; omega) (fun g e => (World.ownsRow.lt HO4.out g e).1))
      have hO6 : OwnSl txV 1 9 w.heap.size w5 (.slice A5 (xs.length + 1) c5) ((ns.take (xs.length + 1)).map numT) := by
        rw [EN.out]; simpa using HO5.out
      have HO6 := Lib.hid hO6; clear hO6
      go_roundw
      case rel => exact ⟨xs.length + 1, A5, c5, by omega, by go_num, by simp, HO6, hb5⟩
      case measure => simp [intOf]; omega
    · obtain rfl : j = ns.length := by omega
      have hO := HO.out
      rw [List.take_length] at hO
      have hl2 : ns.length = (ns.map numT).length := by simp
      rw [hl2] at hO
      obtain ⟨hsl, _, _, _⟩ := OwnSl.sl hO (fun x => rfl)
      have hz : (joinT (ns.map numT) comma).size ≤ 4611686018427387904 := by
        have := joinT_size comma 21 (ns.map numT) (fun x hx => by
          obtain ⟨n, hn, rfl⟩ := List.mem_map.1 hx
          exact numT_le (Hf.out n hn).1 (Hf.out n hn).2)
        rw [List.length_map, comma_size] at this
        omega
      have hjn := joinA_any A c2 (ns.map numT) comma _ wr hsl (Nat.le_refl _) (by simp; omega) hz
      rw [← hl2] at hjn
      obtain ⟨J, hJ⟩ : ∃ J, J = joinT (ns.map numT) comma := ⟨_, rfl⟩
      rw [← hJ] at hjn
      have HJ := Lib.hid hJ; clear hJ
      have Hj := Lib.hid hjn; clear hjn hz hsl hO HO hl2
      go_wp2_with fail
      refine Hj.out.mono ?_
      rintro e w1 ⟨rfl, hb2⟩
      go_wp2
      go_ret
      exact ⟨by rw [← HJ.out]; rfl, bnext hb1 hb2⟩

end Go.Proofs.YtjmfffmjfbpgjaaDoor
