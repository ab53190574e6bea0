/-
  Contracts of the program's readRight of samples and ReadSamples. Conditions: the library's table of powers of ten is as its text lays it, its two errors' variables hold errors; a text's length.
-/
import Derived.Test.YtjmfffmjfbpgjaaGreatDoorReadL
import Derived.Test.YtjmfffmjfbpgjaaGreatDoorSamImpl
namespace Go.Proofs.YtjmfffmjfbpgjaaGreatDoor
open Go.ChangeShapes Go.WideShapes Go.ChangeAt Go.RowKit
set_option linter.unusedVariables false
set_option linter.unusedSimpArgs false

/-- how ReadSamples ends: what it answers is of its own -/
def ReadEnd (t : ByteArray) (w : World) (e : Ending) (w' : World) : Prop := ∃ A k xs cd, e = .returned (.tuple #[.slice A xs.length k, .int .i64 cd]) ∧ SamCode t xs cd ∧ OwnSl GSam.vals 2 89 w.heap.size w' (.slice A xs.length k) xs ∧ Below w.heap.size w w'

theorem samOf_one {t : ByteArray} {xs ys : List GSam} (h : SamOf t xs) (hf : ∀ x ∈ xs, x.fit) (k : SamRead t ys) : xs = ys := by
  have fy : ∀ s ∈ ys, s.fit := fun s hs => ⟨small_fitI (samP_small k.1 s hs).1, small_fitI (samP_small k.1 s hs).2⟩
  rcases h with ⟨rfl, h0⟩ | ⟨hn, hp⟩ <;> rcases k.2.2 with ⟨rfl, k0⟩ | ⟨kn, kp⟩
  · rfl
  · exact absurd kp (no_piece h0 kn)
  · exact absurd hp (no_piece k0 hn)
  · obtain ⟨ps, last, e, hq⟩ := kp
    have hc : ∀ p ∈ ps ++ [last], (32 : UInt8) ∉ p.data.toList := by
      rw [← e]
      intro p hp
      obtain ⟨s, _, rfl⟩ := List.mem_map.1 hp
      exact samT_blank s
    have := sams_cut hp ⟨hq, fun p hp => hc p (by simp [hp]), hc last (by simp)⟩
    exact sam_inj hf fy (by rw [← this, e])

theorem own_nil (base : Nat) (w : World) : OwnSl GSam.vals 2 89 base w (.slice none ([] : List GSam).length 0) [] := ⟨rfl, Or.inl ⟨rfl, rfl⟩⟩

set_option maxRecDepth 100000 in
theorem readRight_any (t : ByteArray) (w : World) (ht : t.size ≤ 2 ^ 63 - 1) (hE : Errs w) (hP : Pow w) : Calls Tryz.prog 51 #[.string t, .func (.func 52) #[] #[], .func (.func 46) #[] #[]] w (ReadEnd t w) := by
  have HE := Lib.hid hE; clear hE
  have HP := Lib.hid hP; clear hP
  have cW : (w.alloc (.cells #[.string t] 9)).cell? ⟨w.heap.size, 0, none⟩ = some (.string t) := by simp
  have bW : Below w.heap.size w (w.alloc (.cells #[.string t] 9)) := bal (Below.refl _ _) _
  go_enter Tryz.func51, Tryz.ntmps51
  go_wp2_with fail
  generalize w.alloc (.cells #[.string t] 9) = w0 at *
  refine (tooLong_any w.heap.size t w0 cW ht).mono ?_
  rintro e w' ⟨rfl, rfl⟩
  clear cW
  cases hl : decide (65536 < (t.size : Int))
  · have hs : t.size ≤ 65536 := by simp at hl; omega
    clear hl
    go_wp2_with fail
    refine (readList_any t w0 hs (fun w' h => by
      have hb : Below w.heap.size w w' := bnext bW h
      exact ⟨HE.out.below hb (Nat.le_refl _), HP.out.below hb (Nat.le_refl _)⟩)).mono ?_
    rintro e w1 ⟨hb1, ⟨A, k, xs, rfl, hof, h8, hf, hO⟩ | ⟨y, rfl, ⟨sx, nx, rfl⟩, hno⟩⟩
    · have b1 := bnext bW hb1
      have HO := Lib.hid (own_more (c := w.heap.size) hO bW.size)
      obtain ⟨hsl, _, _, _⟩ := OwnSl.sl hO (fun x => rfl)
      have HSl := Lib.hid hsl
      have HOF := Lib.hid hof; have HF := Lib.hid hf
      clear hO hsl hof hf hb1 bW
      go_wp2_with fail
      refine (samplesOK_any A k xs w1.heap.size w1 HSl.out (Nat.le_refl _) (by omega)).mono ?_
      rintro e w2 ⟨b, hb, rfl, hb2⟩
      have b2 := bnext b1 hb2
      have HO2 := Lib.hid (HO.out.below hb2)
      clear b1 hb2 HO HSl
      cases b
      · have HR := Lib.hid (show SamCode t [] 3 from Or.inr (Or.inr ⟨hs, fun ys hy => by
          have e := samOf_one HOF.out HF.out hy
          rw [e] at hb
          exact Bool.noConfusion (hb.2 hy.1), rfl, rfl⟩))
        clear hb
        go_wp2
        exact bodyPost_ret (v := .tuple #[.slice none 0 0, .int .i64 3]) (by simp [results, Tryz.results51, go_sem]) rfl ⟨none, 0, [], 3, rfl, HR.out, own_nil _ _, b2⟩
      · have HR := Lib.hid (show SamCode t xs 0 from Or.inr (Or.inl ⟨hs, ⟨hb.1 rfl, h8, HOF.out⟩, rfl⟩))
        clear hb
        go_wp2
        exact bodyPost_ret (v := .tuple #[.slice A xs.length k, .int .i64 0]) (by simp [results, Tryz.results51, go_sem]) rfl ⟨A, k, xs, 0, rfl, HR.out, HO2.out, b2⟩
    · have HR := Lib.hid (show SamCode t [] 3 from Or.inr (Or.inr ⟨hs, hno, rfl, rfl⟩)); clear hno
      have b1 := bnext bW hb1
      clear bW hb1
      go_wp2
      exact bodyPost_ret (v := .tuple #[.slice none 0 0, .int .i64 3]) (by simp [results, Tryz.results51, go_sem]) rfl ⟨none, 0, [], 3, rfl, HR.out, own_nil _ _, b1⟩
  · have HR := Lib.hid (show SamCode t [] 2 from Or.inl ⟨by simp at hl; omega, rfl, rfl⟩)
    go_wp2
    exact bodyPost_ret (v := .tuple #[.slice none 0 0, .int .i64 2]) (by simp [results, Tryz.results51, go_sem]) rfl ⟨none, 0, [], 2, rfl, HR.out, own_nil _ _, bW⟩

theorem readSamples_any (t : ByteArray) (w : World) (ht : t.size ≤ 2 ^ 63 - 1) (hE : Errs w) (hP : Pow w) : Calls Tryz.prog 12 #[.string t] w (ReadEnd t w) := by
  have HE := Lib.hid hE; clear hE
  have HP := Lib.hid hP; clear hP
  go_enter Tryz.func12, Tryz.ntmps12
  go_wp2_with fail
  refine (readRight_any t w ht HE.out HP.out).mono ?_
  rintro e w1 ⟨A, k, xs, cd, rfl, hR, hO, hb⟩
  have HR := Lib.hid hR; have HO := Lib.hid hO
  clear hR hO
  go_wp2
  exact bodyPost_ret (v := .tuple #[.slice A xs.length k, .int .i64 cd]) (by simp [results, Tryz.results12, go_sem]) rfl ⟨A, k, xs, cd, rfl, HR.out, HO.out, hb⟩

end Go.Proofs.YtjmfffmjfbpgjaaGreatDoor
