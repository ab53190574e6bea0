/-
  Contract of the model's l06Takes, for all right records. Conditions: the state is right; lengths.
-/
import Derived.Test.YtpfanmcjlfdaiaaGreatDoorRAplU
import Derived.Test.YtpfanmcjlfdaiaaGreatDoorRAplW
namespace Go.Proofs.YtpfanmcjlfdaiaaGreatDoorR
open Go.ChangeShapes Go.WideShapes Go.ChangeAt Go.RowKit Go.Deep Go.Joins Go.Maps
set_option linter.unusedVariables false

theorem l06Takes_any (A : Option Addr) (c : Nat) (A2 : Option Addr) (c2 : Nat) (s : GSt) (r : GRec) (B : Nat) (w : World) (h : StAt w B A A2 s) (hB : B ≤ w.heap.size) (hl : s.ents.length ≤ 1048576) (hl2 : s.tmbs.length ≤ 1048576) (hsp : StP s) (hrp : RecP r) (hky : r.key.size ≤ 1048576) :
    Calls Tryz.prog 58 #[.agg #[.int .i64 s.sq, .int .i64 s.fe, .slice A s.ents.length c, .slice A2 s.tmbs.length c2, .int .i64 s.lo.a, .int .i64 s.lo.b, .int .i64 s.lo.c, .int .i64 s.hi.a, .int .i64 s.hi.b, .int .i64 s.hi.c], .agg #[.int .i64 r.kind, .int .i64 r.tok, .int .i64 r.tier, .int .i64 r.beg, .int .i64 r.fin, .string r.key]] w (IsBB (TakeP s r) w) := by
  obtain ⟨kd, tk, ti, bg, fi, ky⟩ := r
  have hk : kd = 1 ∨ kd = 2 ∨ kd = 3 ∨ kd = 4 ∨ kd = 5 := by
    rcases hrp with ⟨h, _⟩ | ⟨h, _⟩ | ⟨h, _⟩ | ⟨h, _⟩ | ⟨h, _⟩ <;> simp at h <;> omega
  rcases hk with rfl | rfl | rfl | rfl | rfl
  · exact takes1 A c A2 c2 s tk ti bg fi ky B w h hB hl hl2 hsp hrp hky
  · exact takes2 A c A2 c2 s tk ti bg fi ky B w h hB hl hl2 hsp hrp hky
  · have hti : ti = 1 ∨ ti = 2 := by
      have h2 := hrp
      simp [RecP, GRec.ent] at h2
      have h3 := h2.2.2.tier
      have h0 := h2.2.1
      dsimp only at h3
      omega
    rcases hti with e | e
    · exact takes3_1 A c A2 c2 s tk ti bg fi ky B w h hB hl hl2 hsp hrp hky e
    · exact takes3_2 A c A2 c2 s tk ti bg fi ky B w h hB hl hl2 hsp hrp hky e
  · exact takes4 A c A2 c2 s tk ti bg fi ky B w h hB hl hl2 hsp hrp hky
  · exact takes5 A c A2 c2 s tk ti bg fi ky B w h hB hl hl2 hsp hrp hky

end Go.Proofs.YtpfanmcjlfdaiaaGreatDoorR
