/-
  Contracts of impl.sampleText, of listText over samples, and of impl.SamplesText. Conditions: the library's table of powers of ten is as its text lays it.
-/
import Derived.Test.YtjmfffmjfbpgjaaGreatDoorNumTxt
import Derived.Test.YtjmfffmjfbpgjaaGreatDoorSamImpl
import Derived.Test.YtjmfffmjfbpgjaaGreatDoorAppS
namespace Go.Proofs.YtjmfffmjfbpgjaaGreatDoor
open Go.ChangeShapes Go.WideShapes Go.ChangeAt Go.RowKit
set_option linter.unusedVariables false
set_option linter.unusedSimpArgs false

/-- the text of a sample -/
def samT (s : GSam) : ByteArray := numT s.t ++ ⟨#[61]⟩ ++ numT s.v

def blank : ByteArray := ⟨#[32]⟩

theorem blank_size : blank.size = 1 := rfl

theorem samT_size {s : GSam} (h : s.fit) : (samT s).size ≤ 43 := by
  unfold samT
  rw [ByteArray.size_append, ByteArray.size_append]
  have h1 := numT_le h.1.1 h.1.2
  have h2 := numT_le h.2.1 h.2.2
  have e1 : (⟨#[61]⟩ : ByteArray).size = 1 := rfl
  omega

set_option maxRecDepth 100000 in
theorem sampleText_any (s : GSam) (hf : s.fit) (w : World) (ht : Pow w) : Calls Tryz.prog 48 #[.agg #[.int .i64 s.t, .int .i64 s.v]] w fun e w' => e = .returned (.string (samT s)) ∧ Below w.heap.size w w' := by
  have Hf := Lib.hid hf
  have z1 := numT_le hf.1.1 hf.1.2
  have z2 := numT_le hf.2.1 hf.2.2
  have z3 : ¬ 9223372036854775807 < (numT s.t).size + 1 := by omega
  have z4 : ¬ 9223372036854775807 < (numT s.t).size + 1 + (numT s.v).size := by omega
  have E := Lib.hid (show samT s = numT s.t ++ ⟨#[61]⟩ ++ numT s.v from rfl)
  clear hf z1 z2
  go_enter Tryz.func48, Tryz.ntmps48
  go_wp2_with fail
  have t0 : (w.alloc (.cells #[.int .i64 s.t, .int .i64 s.v] 89)).cell? ⟨w.heap.size, 0, none⟩ = some (.int .i64 s.t) := by simp
  have t1 : (w.alloc (.cells #[.int .i64 s.t, .int .i64 s.v] 89)).cell? ⟨w.heap.size, 1, none⟩ = some (.int .i64 s.v) := by simp
  have b0 : Below w.heap.size w (w.alloc (.cells #[.int .i64 s.t, .int .i64 s.v] 89)) := bal (Below.refl _ _) _
  have sB : w.heap.size < (w.alloc (.cells #[.int .i64 s.t, .int .i64 s.v] 89)).heap.size := by simp
  generalize w.alloc (.cells #[.int .i64 s.t, .int .i64 s.v] 89) = W at *
  have HtW := Lib.hid (ht.below b0 (Nat.le_refl _))
  clear ht
  refine wp_region_noPanic ?_
  refine wp_region_held_drew (S := (fun w' => w'.cell? ⟨w.heap.size, 0, none⟩ = some (.int .i64 s.t) ∧ w'.cell? ⟨w.heap.size, 1, none⟩ = some (.int .i64 s.v))) (by kernel_rfl) (⟨t0, t1⟩) (fun hHeld => ?_)
  refine wpAnyH_take (i := 0) (oi := { dst := some 3, op := Op.fieldAddr 89 (Operand.tmp 1) 0, type := 0, pos := "l03_codec.go:118", after := #[], guard := none }) (v := ?vb0) rfl (by kernel_rfl) (by kernel_rfl) (by kernel_rfl) (fun _ _ _ h => h) (Or.inl ⟨by rfl, ?hyb0⟩) (by assumption) ?restb0
  case hyb0 => intro w hSw; (try dsimp only at hSw); (first | (go_simp; done) | (go_simp; with_reducible rfl) | (with_reducible rfl))
  try simp only [Act.put, List.setIfInBounds_toArray, List.set_cons_zero, List.set_cons_succ]
  refine wpAnyH_take (i := 1) (oi := { dst := some 4, op := Op.load 3 (Operand.tmp 3), type := 3, pos := "l03_codec.go:118", after := #[{ on := 0, ground := Ground.data }], guard := none }) (v := ?vb1) rfl (by kernel_rfl) (by kernel_rfl) (by kernel_rfl) (fun _ _ _ h => h) (Or.inl ⟨by rfl, ?hyb1⟩) (by assumption) ?restb1
  case hyb1 => intro w hSw; (try dsimp only at hSw); (first | (go_simp; done) | (go_simp; with_reducible rfl) | (with_reducible rfl))
  try simp only [Act.put, List.setIfInBounds_toArray, List.set_cons_zero, List.set_cons_succ]
  refine wpAnyH_take (i := 4) (oi := { dst := some 7, op := Op.fieldAddr 89 (Operand.tmp 1) 1, type := 0, pos := "l03_codec.go:118", after := #[], guard := none }) (v := ?vb4) rfl (by kernel_rfl) (by kernel_rfl) (by kernel_rfl) (fun _ _ _ h => h) (Or.inl ⟨by rfl, ?hyb4⟩) (by assumption) ?restb4
  case hyb4 => intro w hSw; (try dsimp only at hSw); (first | (go_simp; done) | (go_simp; with_reducible rfl) | (with_reducible rfl))
  try simp only [Act.put, List.setIfInBounds_toArray, List.set_cons_zero, List.set_cons_succ]
  refine wpAnyH_take (i := 5) (oi := { dst := some 8, op := Op.load 3 (Operand.tmp 7), type := 3, pos := "l03_codec.go:118", after := #[{ on := 4, ground := Ground.data }], guard := none }) (v := ?vb5) rfl (by kernel_rfl) (by kernel_rfl) (by kernel_rfl) (fun _ _ _ h => h) (Or.inl ⟨by rfl, ?hyb5⟩) (by assumption) ?restb5
  case hyb5 => intro w hSw; (try dsimp only at hSw); (first | (go_simp; done) | (go_simp; with_reducible rfl) | (with_reducible rfl))
  try simp only [Act.put, List.setIfInBounds_toArray, List.set_cons_zero, List.set_cons_succ]
  refine wpAnyH_ready (rs := [2]) (by kernel_rfl) (by simp) ?_
  refine AllReadyH.cons (o := { dst := some 5, op := Op.call { callee := Callee.value (Operand.func 115), args := #[Operand.tmp 4], argTypes := #[3] }, type := 9, pos := "l03_codec.go:118", after := #[{ on := 1, ground := Ground.data }], guard := none }) rfl (fun K hK => ?_) AllReadyH.nil
  go_simp
  refine (itoa_any s.t W.drew Hf.out.1.1 Hf.out.1.2 (HtW.out.below (Below.refl _ _).drew (Nat.le_refl _))).mono ?_
  rintro e w1 ⟨rfl, hb1⟩
  go_wp2_with fail
  refine hK.out _ _ (⟨(hb1.cell sB).trans t0, (hb1.cell sB).trans t1⟩) (fun hHeld => ?_)
  clear hK K
  try simp only [Act.put, List.setIfInBounds_toArray, List.set_cons_zero, List.set_cons_succ]
  refine wpAnyH_take (i := 3) (oi := { dst := some 6, op := Op.binOp BinOp.add 9 (Operand.tmp 5) (Operand.const (Value.string { data := #[61] })) 9, type := 9, pos := "l03_codec.go:118", after := #[{ on := 2, ground := Ground.data }], guard := none }) (v := ?vb3) rfl (by kernel_rfl) (by kernel_rfl) (by kernel_rfl) (fun _ _ _ h => h) (Or.inl ⟨by rfl, ?hyb3⟩) (by assumption) ?restb3
  case hyb3 => intro w hSw; (try dsimp only at hSw); (first | (go_simp; done) | (go_simp; with_reducible rfl) | (with_reducible rfl))
  try simp only [Act.put, List.setIfInBounds_toArray, List.set_cons_zero, List.set_cons_succ]
  refine wpAnyH_ready (rs := [6]) (by kernel_rfl) (by simp) ?_
  refine AllReadyH.cons (o := { dst := some 9, op := Op.call { callee := Callee.value (Operand.func 115), args := #[Operand.tmp 8], argTypes := #[3] }, type := 9, pos := "l03_codec.go:118", after := #[{ on := 5, ground := Ground.data }, { on := 2, ground := Ground.chain }], guard := none }) rfl (fun K hK => ?_) AllReadyH.nil
  go_simp
  refine (itoa_any s.v w1 Hf.out.2.1 Hf.out.2.2 (HtW.out.below ((Below.refl _ _).drew.trans hb1) (Nat.le_refl _))).mono ?_
  rintro e w2 ⟨rfl, hb2⟩
  go_wp2_with fail
  refine hK.out _ _ (⟨(hb2.cell (Nat.lt_of_lt_of_le sB hb1.size)).trans ((hb1.cell sB).trans t0), (hb2.cell (Nat.lt_of_lt_of_le sB hb1.size)).trans ((hb1.cell sB).trans t1)⟩) (fun hHeld => ?_)
  clear hK K
  try simp only [Act.put, List.setIfInBounds_toArray, List.set_cons_zero, List.set_cons_succ]
  refine wpAnyH_take (i := 7) (oi := { dst := some 10, op := Op.binOp BinOp.add 9 (Operand.tmp 6) (Operand.tmp 9) 9, type := 9, pos := "l03_codec.go:118", after := #[{ on := 3, ground := Ground.data }, { on := 6, ground := Ground.data }], guard := none }) (v := ?vb7) rfl (by kernel_rfl) (by kernel_rfl) (by kernel_rfl) (fun _ _ _ h => h) (Or.inl ⟨by rfl, ?hyb7⟩) (by assumption) ?restb7
  case hyb7 => intro w hSw; (try dsimp only at hSw); (first | (go_simp; done) | (go_simp; with_reducible rfl) | (with_reducible rfl))
  try simp only [Act.put, List.setIfInBounds_toArray, List.set_cons_zero, List.set_cons_succ]
  refine wpAnyH_take (i := 8) (oi := { dst := some 2, op := Op.assign (Operand.tmp 10), type := 9, pos := "l03_codec.go:118", after := #[{ on := 7, ground := Ground.data }, { on := 6, ground := Ground.chain }, { on := 0, ground := Ground.phase }, { on := 1, ground := Ground.phase }, { on := 2, ground := Ground.phase }, { on := 3, ground := Ground.phase }, { on := 4, ground := Ground.phase }, { on := 5, ground := Ground.phase }, { on := 6, ground := Ground.phase }, { on := 7, ground := Ground.phase }], guard := none }) (v := ?vb8) rfl (by kernel_rfl) (by kernel_rfl) (by kernel_rfl) (fun _ _ _ h => h) (Or.inl ⟨by rfl, ?hyb8⟩) (by assumption) ?restb8
  case hyb8 => intro w hSw; (try dsimp only at hSw); (first | (go_simp; done) | (go_simp; with_reducible rfl) | (with_reducible rfl))
  try simp only [Act.put, List.setIfInBounds_toArray, List.set_cons_zero, List.set_cons_succ]
  refine wpAnyH_done (by kernel_rfl) ?_ _
  refine NoPanic.normal ?_
  have b2 : Below w.heap.size w w2 := bnext (bnext b0 ((Below.refl _ _).drew.trans hb1)) hb2
  clear hb1 hb2 t0 t1 hHeld
  go_wp2
  go_ret
  exact ⟨by rw [E.out]; rfl, b2⟩

set_option maxRecDepth 100000 in
theorem listSam_any (A : Option Addr) (c : Nat) (xs : List GSam) (B : Nat) (w : World) (h : SamsAt w B A xs) (hB : B ≤ w.heap.size) (hl : xs.length ≤ 1000) (hf : ∀ x ∈ xs, GSam.fit x) (ht : Pow w) :
    Calls Tryz.prog 47 #[.slice A xs.length c, .func (.func 48) #[] #[]] w fun e w' => e = .returned (.string (joinT (xs.map samT) blank)) ∧ Below w.heap.size w w' := by
  have H := Lib.hid h; clear h
  have Ht := Lib.hid ht; clear ht
  have Hf := Lib.hid hf; clear hf
  have hmk := make_txts xs.length (by omega)
  go_enter Tryz.func47, Tryz.ntmps47
  go_wp2_with fail
  have hsl := zeroTxts_sl xs.length w
  have hfr : Free (w.alloc (zeroTxts xs.length)) (some ⟨w.heap.size, 0, none⟩) := free_alloc _ _ _ _
  have hbw : Below w.heap.size w (w.alloc (zeroTxts xs.length)) := bal (Below.refl _ _) _
  have hsz : w.heap.size < (w.alloc (zeroTxts xs.length)).heap.size := by simp
  generalize w.alloc (zeroTxts xs.length) = w0 at hsl hfr hbw hsz ⊢
  clear hmk
  have Hsl := Lib.hid hsl; clear hsl
  have Hfr := Lib.hid hfr; clear hfr
  go_loopw [13] (fun i wr => ∃ j : Nat, j ≤ xs.length ∧ i = .int .i64 j ∧ Hid (TxtAt wr (w.heap.size + 1) (some ⟨w.heap.size, 0, none⟩) ((xs.map samT).take j ++ (List.replicate xs.length ByteArray.empty).drop j)) ∧ Hid (Free wr (some ⟨w.heap.size, 0, none⟩)) ∧ w.heap.size < wr.heap.size ∧ Below w.heap.size w wr) (fun i _ => xs.length - (intOf i).toNat)
  case atStart => exact ⟨0, by omega, rfl, Lib.hid (by simpa using Hsl.out), Hfr, hsz, hbw⟩
  case round =>
    clear Hsl Hfr hbw hsz
    obtain ⟨j, hj, rfl, Hr, Hf2, hs, hb1⟩ := hrel
    by_cases hlt : j < xs.length
    · obtain ⟨b, off, rfl, hbB, p0, p1⟩ := SamsAt.sam (Sl.below H.out hb1 hB) hlt
      have hjl : j < ((xs.map samT).take j ++ (List.replicate xs.length ByteArray.empty).drop j).length := by simp; omega
      obtain ⟨g, o2, e, hgB, q0⟩ := TxtAt.at_ Hr.out hjl
      injection e with e
      injection e with e1 e2
      subst e1 e2
      obtain ⟨v0, q0⟩ : ∃ v, wr.cell? ⟨w.heap.size, 0 + j, none⟩ = some v := ⟨_, q0⟩
      rw [Nat.zero_add] at q0
      have Q0 := Lib.hid q0; clear q0
      have fz : ∀ i, wr.frozen? ⟨w.heap.size, i, none⟩ = false := Hf2.out _ rfl
      have Fz := Lib.hid fz; clear fz
      have HI := Lib.hid (Hf.out _ (List.getElem_mem hlt))
      go_wp2_with fail
      have bA : Below wr.heap.size wr (wr.alloc (.cells #[.int .i64 xs[j].t, .int .i64 xs[j].v] 89)) := bal (Below.refl _ _) _
      refine (sampleText_any xs[j] HI.out (wr.alloc (.cells #[.int .i64 xs[j].t, .int .i64 xs[j].v] 89)) (Ht.out.below (bnext hb1 bA) (Nat.le_refl _))).mono ?_
      rintro e w1 ⟨rfl, hb2'⟩
      have hb2 : Below wr.heap.size wr w1 := bnext bA hb2'
      have c0 : w1.cell? ⟨w.heap.size, j, none⟩ = some v0 := (hb2.cell hs).trans Q0.out
      have f0 : w1.frozen? ⟨w.heap.size, j, none⟩ = false := (hb2.frozen hs).trans (Fz.out _)
      have hn := Sl.puts (w1 := w1) Hr.out (fun x => rfl) hjl (fun i => hb2.cell hs) (samT xs[j])
      have et : samT xs[j] = (xs.map samT)[j]'(by simpa using hlt) := by simp
      rw [et, take_set (xs.map samT) _ j (by simpa using hlt) (by simpa using hlt), ← et, Nat.mul_one] at hn
      have Hn := Lib.hid hn; clear hn et
      have Hfn := Lib.hid (Free.puts (w1 := w1) (g := w.heap.size) (i := j) (txV (samT xs[j])) (fun i => (hb2.frozen hs).trans (Fz.out i)))
      have hsn : w.heap.size < (puts w1 w.heap.size j (txV (samT xs[j]))).heap.size := by rw [puts_size]; have := hb2.size; omega
      have Hsn := Lib.hid hsn; clear hsn
      have Hbn := Lib.hid (puts_below w.heap.size (Nat.le_refl _) (txV (samT xs[j])) w1 j (bnext hb1 hb2))
      clear p0 p1 hb2' bA
      generalize samT xs[j] = T at *
      go_wp2
      go_roundw
      case rel => exact ⟨j + 1, by omega, by go_num, Hn, Hfn, Hsn.out, Hbn.out⟩
      case measure => simp [intOf]; omega
    · obtain rfl : j = xs.length := by omega
      have hn : TxtAt wr (w.heap.size + 1) (some ⟨w.heap.size, 0, none⟩) (xs.map samT) := by
        have := Hr.out
        rw [List.take_of_length_le (by simp), List.drop_of_length_le (by simp), List.append_nil] at this
        exact this
      have hz : (joinT (xs.map samT) blank).size ≤ 140737488355328 := by
        have := joinT_size blank 1000 (xs.map samT) (fun x hx => by
          obtain ⟨n, hn, rfl⟩ := List.mem_map.1 hx
          exact Nat.le_trans (samT_size (Hf.out n hn)) (by omega))
        rw [List.length_map, blank_size] at this
        omega
      have hjn := joinS_any w.heap.size 0 xs.length (xs.map samT) blank _ wr hn hs (by simp; omega) (by simp) hz
      rw [List.length_map] at hjn
      obtain ⟨J, hJ⟩ : ∃ J, J = joinT (xs.map samT) blank := ⟨_, rfl⟩
      rw [← hJ] at hjn
      have HJ := Lib.hid hJ; clear hJ
      have Hj := Lib.hid hjn; clear hjn hn hz
      go_wp2_with fail
      refine Hj.out.mono ?_
      rintro e w1 ⟨rfl, hb2⟩
      go_wp2
      go_ret
      exact ⟨by rw [← HJ.out]; rfl, bnext hb1 hb2⟩

/-- what SamplesText answers -/
def SamTextOf (xs : List GSam) (s : ByteArray) (cd : Int) : Prop :=
  (¬ xs.length ≤ 4096 ∧ s = ⟨#[]⟩ ∧ cd = 2) ∨ (xs.length ≤ 4096 ∧ ¬ SamP xs ∧ s = ⟨#[]⟩ ∧ cd = 1) ∨ (SamP xs ∧ ¬ xs.length ≤ 8 ∧ s = ⟨#[]⟩ ∧ cd = 6) ∨ (SamP xs ∧ xs.length ≤ 8 ∧ s = joinT (xs.map samT) blank ∧ cd = 0)

theorem samT_one {xs : List GSam} {s s' : ByteArray} {cd cd' : Int} (h : SamTextOf xs s cd) (h' : SamTextOf xs s' cd') : s = s' ∧ cd = cd' := by
  have k : SamP xs → xs.length ≤ 4096 := fun h => h.1
  rcases h with ⟨h1, rfl, rfl⟩ | ⟨h1, h2, rfl, rfl⟩ | ⟨h1, h2, rfl, rfl⟩ | ⟨h1, h2, rfl, rfl⟩ <;> rcases h' with ⟨g1, rfl, rfl⟩ | ⟨g1, g2, rfl, rfl⟩ | ⟨g1, g2, rfl, rfl⟩ | ⟨g1, g2, rfl, rfl⟩ <;> first | exact ⟨rfl, rfl⟩ | (exfalso; first | exact h1 (k g1) | exact g1 (k h1) | exact h1 g1 | exact h2 g1 | exact g2 h1 | exact h2 g2 | exact g2 h2 | exact g1 h1)

set_option maxRecDepth 100000 in
theorem samplesText_any (A : Option Addr) (c : Nat) (xs : List GSam) (B : Nat) (w : World) (h : SamsAt w B A xs) (hB : B ≤ w.heap.size) (hl : xs.length ≤ 1048576) (hf : ∀ x ∈ xs, GSam.fit x) (ht : Pow w) :
    Calls Tryz.prog 10 #[.slice A xs.length c] w fun e w' => ∃ s cd, e = .returned (.tuple #[.string s, .int .i64 cd]) ∧ SamTextOf xs s cd ∧ Below w.heap.size w w' := by
  have H := Lib.hid h; clear h
  have Hf := Lib.hid hf; clear hf
  have Ht := Lib.hid ht; clear ht
  by_cases h1 : xs.length ≤ 4096
  · have d1 : decide (4096 < (xs.length : Int)) = false := by simp; omega
    go_enter Tryz.func10, Tryz.ntmps10
    go_wp2_with fail
    refine (samplesOK_any A c xs B w H.out hB hl).mono ?_
    rintro e w1 ⟨b, hb, rfl, hb1⟩
    cases b
    · have Hn := Lib.hid (show ¬ SamP xs from fun h => by have := hb.2 h; cases this)
      clear hb
      go_wp2
      exact bodyPost_ret (v := .tuple #[.string ⟨#[]⟩, .int .i64 1]) (by simp [results, Tryz.results10, go_sem]) rfl ⟨⟨#[]⟩, 1, rfl, Or.inr (Or.inl ⟨h1, Hn.out, rfl, rfl⟩), hb1⟩
    have Hp := Lib.hid (hb.1 rfl); clear hb
    by_cases h2 : xs.length ≤ 8
    · have d2 : decide (8 < (xs.length : Int)) = false := by simp; omega
      go_wp2_with fail
      refine (listSam_any A c xs B w1 (Sl.below H.out hb1 hB) (Nat.le_trans hB hb1.size) (by omega) Hf.out (Ht.out.below hb1 (Nat.le_refl _))).mono ?_
      rintro e w2 ⟨rfl, hb2⟩
      obtain ⟨J, hJ⟩ : ∃ J, J = joinT (xs.map samT) blank := ⟨_, rfl⟩
      rw [← hJ]
      have HJ := Lib.hid hJ; clear hJ
      go_wp2
      exact bodyPost_ret (v := .tuple #[.string J, .int .i64 0]) (by simp [results, Tryz.results10, go_sem]) rfl ⟨J, 0, rfl, Or.inr (Or.inr (Or.inr ⟨Hp.out, h2, HJ.out, rfl⟩)), bnext hb1 hb2⟩
    · have d2 : decide (8 < (xs.length : Int)) = true := by simp; omega
      go_wp2
      exact bodyPost_ret (v := .tuple #[.string ⟨#[]⟩, .int .i64 6]) (by simp [results, Tryz.results10, go_sem]) rfl ⟨⟨#[]⟩, 6, rfl, Or.inr (Or.inr (Or.inl ⟨Hp.out, h2, rfl, rfl⟩)), hb1⟩
  · have d1 : decide (4096 < (xs.length : Int)) = true := by simp; omega
    go_enter Tryz.func10, Tryz.ntmps10
    go_wp2
    exact bodyPost_ret (v := .tuple #[.string ⟨#[]⟩, .int .i64 2]) (by simp [results, Tryz.results10, go_sem]) rfl ⟨⟨#[]⟩, 2, rfl, Or.inl ⟨h1, rfl, rfl⟩, Below.refl _ _⟩

end Go.Proofs.YtjmfffmjfbpgjaaGreatDoor
