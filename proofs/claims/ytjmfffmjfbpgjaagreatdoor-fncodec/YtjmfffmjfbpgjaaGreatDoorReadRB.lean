/-
  Contracts of the program's readRight of buckets and ReadBuckets. Conditions: the library's table of powers of ten is as its text lays it, its two errors' variables hold errors, its MaxLen an int; a text's length.
-/
import Derived.Test.YtjmfffmjfbpgjaaGreatDoorReadLB
import Derived.Test.YtjmfffmjfbpgjaaGreatDoorBktImpl
namespace Go.Proofs.YtjmfffmjfbpgjaaGreatDoor
open Go.ChangeShapes Go.WideShapes Go.ChangeAt Go.RowKit
set_option linter.unusedVariables false
set_option linter.unusedSimpArgs false

/-- how ReadBuckets ends: what it answers is of its own -/
def ReadEndB (t : ByteArray) (w : World) (e : Ending) (w' : World) : Prop := ∃ A k xs cd, e = .returned (.tuple #[.slice A xs.length k, .int .i64 cd]) ∧ BktCode t xs cd ∧ OwnSl GBkt.vals 7 101 w.heap.size w' (.slice A xs.length k) xs ∧ Below w.heap.size w w'

theorem bktOf_one {t : ByteArray} {xs ys : List GBkt} (h : BktOf t xs) (fx : ∀ x ∈ xs, FitB x) (k : BktRead t ys) : xs = ys := by
  have fy : ∀ s ∈ ys, FitB s := fun s hs => ⟨small_fitI (bktP_small k.1 s hs).1, fun n hn => small_fitI (aggP_small (bktP_small k.1 s hs).2 n hn)⟩
  rcases h with ⟨rfl, h0⟩ | ⟨hn, hp⟩ <;> rcases k.2 with ⟨rfl, k0⟩ | ⟨kn, kp⟩
  · rfl
  · exact absurd kp (no_pieceB h0 kn)
  · exact absurd hp (no_pieceB k0 hn)
  · obtain ⟨ps, last, e, hq⟩ := kp
    have hc : ∀ p ∈ ps ++ [last], (32 : UInt8) ∉ p.data.toList := by
      rw [← e]
      intro p hp
      obtain ⟨s, _, rfl⟩ := List.mem_map.1 hp
      exact bktT_blank s
    have := bkts_cut hp ⟨hq, fun p hp => hc p (by simp [hp]), hc last (by simp)⟩
    exact bkt_inj fx fy (by rw [← this, e])

theorem own_nilB (base : Nat) (w : World) : OwnSl GBkt.vals 7 101 base w (.slice none ([] : List GBkt).length 0) [] := ⟨rfl, Or.inl ⟨rfl, rfl⟩⟩

set_option maxRecDepth 100000 in
theorem readRightB_any (t : ByteArray) (w : World) (ht : t.size ≤ 2 ^ 63 - 1) (hE : Errs w) (hP : Pow w) (hM : MaxL w) : Calls Tryz.prog 58 #[.string t, .func (.func 59) #[] #[], .func (.func 22) #[] #[]] w (ReadEndB t w) := by
  have HE := Lib.hid hE; clear hE
  have HP := Lib.hid hP; clear hP
  have HM := Lib.hid hM; clear hM
  have cW : (w.alloc (.cells #[.string t] 9)).cell? ⟨w.heap.size, 0, none⟩ = some (.string t) := by simp
  have bW : Below w.heap.size w (w.alloc (.cells #[.string t] 9)) := bal (Below.refl _ _) _
  go_enter Tryz.func58, Tryz.ntmps58
  go_wp2_with fail
  generalize w.alloc (.cells #[.string t] 9) = w0 at *
  refine (tooLong_any w.heap.size t w0 cW ht).mono ?_
  rintro e w' ⟨rfl, rfl⟩
  clear cW
  cases hl : decide (65536 < (t.size : Int))
  · have hs : t.size ≤ 65536 := by simp at hl; omega
    clear hl
    go_wp2_with fail
    refine (readListB_any t w0 hs (fun w' h => by
      have hb : Below w.heap.size w w' := bnext bW h
      exact ⟨HE.out.below hb (Nat.le_refl _), HP.out.below hb (Nat.le_refl _), HM.out.below hb (Nat.le_refl _)⟩)).mono ?_
    rintro e w1 ⟨hb1, ⟨A, k, xs, rfl, hof, h8, hf, hO⟩ | ⟨y, rfl, ⟨sx, nx, rfl⟩, hno⟩⟩
    · have b1 := bnext bW hb1
      have HO := Lib.hid (own_moreB (c := w.heap.size) hO bW.size)
      obtain ⟨hsl, _, _, _⟩ := OwnSl.sl hO (fun x => rfl)
      have HSl := Lib.hid hsl
      have HOF := Lib.hid hof; have HF := Lib.hid hf
      clear hO hsl hof hf hb1 bW
      go_wp2_with fail
      refine (bucketsOK_any A k xs w1.heap.size w1 HSl.out (Nat.le_refl _) (by omega)).mono ?_
      rintro e w2 ⟨b, hb, rfl, hb2⟩
      have b2 := bnext b1 hb2
      have HO2 := Lib.hid (HO.out.below hb2)
      clear b1 hb2 HO HSl
      cases b
      · have HR := Lib.hid (show BktCode t [] 3 from Or.inr (Or.inr ⟨hs, fun ys hy => by
          have e := bktOf_one HOF.out HF.out hy
          rw [e] at hb
          exact Bool.noConfusion (hb.2 hy.1), rfl, rfl⟩))
        clear hb
        go_wp2
        exact bodyPost_ret (v := .tuple #[.slice none 0 0, .int .i64 3]) (by simp [results, Tryz.results58, go_sem]) rfl ⟨none, 0, [], 3, rfl, HR.out, own_nilB _ _, b2⟩
      · have HR := Lib.hid (show BktCode t xs 0 from Or.inr (Or.inl ⟨hs, ⟨hb.1 rfl, HOF.out⟩, rfl⟩))
        clear hb
        go_wp2
        exact bodyPost_ret (v := .tuple #[.slice A xs.length k, .int .i64 0]) (by simp [results, Tryz.results58, go_sem]) rfl ⟨A, k, xs, 0, rfl, HR.out, HO2.out, b2⟩
    · have HR := Lib.hid (show BktCode t [] 3 from Or.inr (Or.inr ⟨hs, hno, rfl, rfl⟩)); clear hno
      have b1 := bnext bW hb1
      clear bW hb1
      go_wp2
      exact bodyPost_ret (v := .tuple #[.slice none 0 0, .int .i64 3]) (by simp [results, Tryz.results58, go_sem]) rfl ⟨none, 0, [], 3, rfl, HR.out, own_nilB _ _, b1⟩
  · have HR := Lib.hid (show BktCode t [] 2 from Or.inl ⟨by simp at hl; omega, rfl, rfl⟩)
    go_wp2
    exact bodyPost_ret (v := .tuple #[.slice none 0 0, .int .i64 2]) (by simp [results, Tryz.results58, go_sem]) rfl ⟨none, 0, [], 2, rfl, HR.out, own_nilB _ _, bW⟩

theorem readBuckets_any (t : ByteArray) (w : World) (ht : t.size ≤ 2 ^ 63 - 1) (hE : Errs w) (hP : Pow w) (hM : MaxL w) : Calls Tryz.prog 16 #[.string t] w (ReadEndB t w) := by
  have HE := Lib.hid hE; clear hE
  have HP := Lib.hid hP; clear hP
  have HM := Lib.hid hM; clear hM
  go_enter Tryz.func16, Tryz.ntmps16
  go_wp2_with fail
  refine (readRightB_any t w ht HE.out HP.out HM.out).mono ?_
  rintro e w1 ⟨A, k, xs, cd, rfl, hR, hO, hb⟩
  have HR := Lib.hid hR; have HO := Lib.hid hO
  clear hR hO
  go_wp2
  exact bodyPost_ret (v := .tuple #[.slice A xs.length k, .int .i64 cd]) (by simp [results, Tryz.results16, go_sem]) rfl ⟨A, k, xs, cd, rfl, HR.out, HO.out, hb⟩

end Go.Proofs.YtjmfffmjfbpgjaaGreatDoor
