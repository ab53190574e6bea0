/-
  Several texts as one: contracts that the law leans on; each part says what it proves and its conditions.
-/
import Derived.Test.YtpfanmcjlfdaiaaGreatDoorRN4
import Derived.Test.YtpfanmcjlfdaiaaGreatDoorRN2
import Derived.Test.YtpfanmcjlfdaiaaGreatDoorRN8
import Derived.Laws.EntriesVeiled
import Derived.Test.YtpfanmcjlfdaiaaGreatDoorRCutUp
import Derived.Maps.Own
import Derived.Maps.OwnOps
import Derived.Maps.OwnSet
import Derived.Deep.RegionHeld3

/- What a right entry and a right record are; contracts of what asks whether one is right, in both packages. Conditions: the program's table of paths is as its text lays it; a text's length. -/
namespace Go.Proofs.YtpfanmcjlfdaiaaGreatDoorR
open Go.ChangeShapes Go.WideShapes Go.ChangeAt Go.RowKit Go.Deep Go.Joins
set_option linter.unusedVariables false
set_option linter.unusedSimpArgs false

def AnyKey (key : ByteArray) : Prop := ∃ t n m, IsKey key t n m

/-- an entry is right: its range is not empty, its key a data key of its tier -/
def EntP (e : GEnt) : Prop := (∃ n m, IsKey e.key e.tier n m) ∧ e.beg < e.fin ∧ rngB e.beg e.fin = true

/-- a record is right -/
def RecP (r : GRec) : Prop :=
  (r.kind = 1 ∧ r.tok = 0 ∧ r.tier = 0 ∧ EntP r.ent) ∨ (r.kind = 2 ∧ inB r.tok 1 999999 = true ∧ r.tier = 0 ∧ r.beg = 0 ∧ r.fin = 0 ∧ r.key = ⟨#[]⟩) ∨
  (r.kind = 3 ∧ inB r.tok 1 999999 = true ∧ r.tier ≠ 0 ∧ EntP r.ent) ∨ (r.kind = 4 ∧ inB r.tok 1 999999 = true ∧ EntP r.ent) ∨ (r.kind = 5 ∧ r.tok = 0 ∧ r.tier = 0 ∧ r.beg = 0 ∧ r.fin = 0 ∧ AnyKey r.key)

theorem isKey_size {key : ByteArray} {t n m : Int} (h : IsKey key t n m) : key.size ≤ 17 := by
  rw [h.2]
  unfold keyT
  rw [ByteArray.size_append, ByteArray.size_append, ByteArray.size_append, sixT_size, sixT_size]
  have : (pathT t.toNat).size ≤ 4 := by unfold pathT; split <;> decide
  have : (⟨#[45]⟩ : ByteArray).size = 1 := rfl
  omega

theorem isDataKey_any (key : ByteArray) (w : World) (hk : key.size ≤ 2 ^ 63 - 1) (hp : Paths w) (hz : 1 < w.heap.size) : Calls Tryz.prog 92 #[.string key] w (IsBB (AnyKey key) w) := by
  have Hp := Lib.hid hp; clear hp
  go_enter Tryz.func92, Tryz.ntmps92
  go_wp2_with fail
  refine (readKey_any key w hk Hp.out hz).mono ?_
  rintro e w1 ⟨t, n, m, cd, rfl, hK, hb⟩
  rcases hK with ⟨hl, rfl, rfl, rfl, rfl⟩ | ⟨hl, hK, rfl⟩ | ⟨hl, hN, rfl, rfl, rfl, rfl⟩
  · have HN : Hid (¬ AnyKey key) := Lib.hid (fun ⟨t, n, m, h⟩ => by have := isKey_size h; omega)
    clear hl
    go_wp2
    go_ret
    exact IsBB.no HN.out hb
  · have HY : Hid (AnyKey key) := Lib.hid ⟨t, n, m, hK⟩
    clear hl hK
    go_wp2
    go_ret
    exact IsBB.yes HY.out hb
  · have HN : Hid (¬ AnyKey key) := Lib.hid (fun ⟨t, n, m, h⟩ => hN t n m h)
    clear hl hN
    go_wp2
    go_ret
    exact IsBB.no HN.out hb

theorem EntP.key {e : GEnt} (h : EntP e) : AnyKey e.key := by
  obtain ⟨⟨n, m, h⟩, _⟩ := h
  exact ⟨_, n, m, h⟩

theorem EntP.tier {e : GEnt} (h : EntP e) : 0 ≤ e.tier ∧ e.tier ≤ 2 := by
  obtain ⟨⟨n, m, h⟩, _⟩ := h
  exact ⟨h.1.1, h.1.2.1⟩

theorem entP_iff {e : GEnt} {t n m : Int} (h : IsKey e.key t n m) : EntP e ↔ (t == e.tier) = true ∧ decide (e.beg < e.fin) = true ∧ rngB e.beg e.fin = true := by
  simp only [EntP, beq_iff_eq, decide_eq_true_eq]
  constructor
  · rintro ⟨⟨n', m', h'⟩, h2, h3⟩
    exact ⟨(isKey_one h h').1, h2, h3⟩
  · rintro ⟨rfl, h2, h3⟩
    exact ⟨⟨n, m, h⟩, h2, h3⟩

theorem entRight_any (e : GEnt) (w : World) (hk : e.key.size ≤ 2 ^ 63 - 1) (hp : Paths w) (hz : 1 < w.heap.size) : Calls Tryz.prog 91 #[.agg #[.int .i64 e.tier, .int .i64 e.beg, .int .i64 e.fin, .string e.key]] w (IsBB (EntP e) w) := by
  have Hp := Lib.hid hp; clear hp
  go_enter Tryz.func91, Tryz.ntmps91
  go_wp2_with fail
  refine (readKey_any e.key _ hk (Hp.out.below (bal (Below.refl _ _) _) hz) (by simp <;> omega)).mono ?_
  rintro e' w1 ⟨t, n, m, cd, rfl, hK, hb⟩
  have c0 : w1.cell? ⟨w.heap.size, 0, none⟩ = some (.int .i64 e.tier) := by rw [hb.cell (by simp)]; simp [go_sem]
  have c1 : w1.cell? ⟨w.heap.size, 1, none⟩ = some (.int .i64 e.beg) := by rw [hb.cell (by simp)]; simp [go_sem]
  have c2 : w1.cell? ⟨w.heap.size, 2, none⟩ = some (.int .i64 e.fin) := by rw [hb.cell (by simp)]; simp [go_sem]
  have hbw : Below w.heap.size w w1 := (bal (Below.refl _ _) _).trans (hb.mono (by simp))
  clear hb
  rcases hK with ⟨hl, rfl, rfl, rfl, rfl⟩ | ⟨hl, hK, rfl⟩ | ⟨hl, hN, rfl, rfl, rfl, rfl⟩
  · have HN : Hid (¬ EntP e) := Lib.hid (fun h => by obtain ⟨t, n, m, h⟩ := h.key; have := isKey_size h; omega)
    clear hl
    go_wp2
    go_ret
    exact IsBB.no HN.out hbw
  · have HI := Lib.hid (entP_iff hK)
    clear hl hK
    go_wp2_with (go_at_call 117; refine (isRange_any _ _ _).mono ?_; rintro e w' ⟨rfl, rfl⟩)
    all_goals go_ret
    all_goals refine ⟨_, Iff.trans ?_ HI.out.symm, rfl, hbw⟩
    all_goals first | (simp_all; done) | (simp_all <;> intros <;> omega)
  · have HN : Hid (¬ EntP e) := Lib.hid (fun h => by obtain ⟨t, n, m, h⟩ := h.key; exact hN t n m h)
    clear hl hN
    go_wp2
    go_ret
    exact IsBB.no HN.out hbw

theorem entry_any (r : GRec) (w : World) : Calls Tryz.prog 118 #[.agg #[.int .i64 r.kind, .int .i64 r.tok, .int .i64 r.tier, .int .i64 r.beg, .int .i64 r.fin, .string r.key]] w fun e w' => e = .returned (.agg #[.int .i64 r.tier, .int .i64 r.beg, .int .i64 r.fin, .string r.key]) ∧ Below w.heap.size w w' := by
  go_enter Tryz.func118, Tryz.ntmps118
  go_wp2
  refine bodyPost_ret (v := .agg #[.int .i64 r.tier, .int .i64 r.beg, .int .i64 r.fin, .string r.key]) (by simp [results, Tryz.results118, go_sem]) rfl ⟨rfl, ?_⟩
  repeat' first | exact Below.refl _ _ | refine bal ?_ _ | refine bset ?_ (by simp) _

theorem isToken_any (n : Int) (w : World) : Calls Tryz.prog 119 #[.int .i64 n] w fun e w' => e = .returned (.bool (inB n 1 999999)) ∧ w = w' := by
  go_enter Tryz.func119, Tryz.ntmps119
  go_wp2_with (go_at_call 62; refine (within_any _ _ _ _).mono ?_; rintro e w' ⟨rfl, rfl⟩)
  go_ret
  exact ⟨rfl, rfl⟩

theorem nil_list {k : ByteArray} : (k.toList == (⟨#[]⟩ : ByteArray).toList) = true ↔ k = ⟨#[]⟩ := by
  constructor
  · intro h
    rw [beq_iff_eq, ByteArray.toList_eq, ByteArray.toList_eq] at h
    exact bytes_inj h
  · rintro rfl
    simp

theorem l06Tiered_any (r : GRec) (least : Int) (w : World) (hk : r.key.size ≤ 1048576) : Calls Tryz.prog 55 #[.agg #[.int .i64 r.kind, .int .i64 r.tok, .int .i64 r.tier, .int .i64 r.beg, .int .i64 r.fin, .string r.key], .int .i64 least] w (IsBB (EntP r.ent ∧ least ≤ r.tier) w) := by
  go_enter Tryz.func55, Tryz.ntmps55
  go_wp2_with fail
  refine (toKey_any r.key _ hk).mono ?_
  rintro e w1 ⟨t, n, m, b, rfl, hK, hB⟩
  obtain ⟨c0, c1, c2, c3, c4, c5⟩ : w1.cell? ⟨w.heap.size, 0, none⟩ = some (.int .i64 r.kind) ∧ w1.cell? ⟨w.heap.size, 1, none⟩ = some (.int .i64 r.tok) ∧ w1.cell? ⟨w.heap.size, 2, none⟩ = some (.int .i64 r.tier) ∧ w1.cell? ⟨w.heap.size, 3, none⟩ = some (.int .i64 r.beg) ∧ w1.cell? ⟨w.heap.size, 4, none⟩ = some (.int .i64 r.fin) ∧ w1.cell? ⟨w.heap.size, 5, none⟩ = some (.string r.key) := (RecAt.below (RecAt.new w r 38) hB (by simp)).cells
  have hbw : Below w.heap.size w w1 := (bal (Below.refl _ _) _).trans (hB.mono (by simp))
  clear hB c0 c1 c5
  rcases hK with ⟨rfl, hK⟩ | ⟨rfl, rfl, rfl, rfl, hN⟩
  · have HI : Hid ((EntP r.ent ∧ least ≤ r.tier) ↔ ((t == r.tier) = true ∧ inB r.tier least 2 = true ∧ rngB r.beg r.fin = true ∧ decide (r.beg < r.fin) = true)) := Lib.hid (by
      rw [entP_iff (e := r.ent) hK]
      simp only [GRec.ent, inB_iff, beq_iff_eq, decide_eq_true_eq]
      have := hK.1.2.1
      constructor
      · rintro ⟨⟨a, b, c⟩, d⟩
        exact ⟨a, ⟨d, by omega⟩, c, of_decide_eq_true b⟩
      · rintro ⟨a, ⟨d, _⟩, c, b⟩
        exact ⟨⟨a, decide_eq_true b, c⟩, d⟩)
    clear hK
    go_wp2_with (first | (go_at_call 83; refine (l04Range_any _ _ _).mono ?_; rintro e w' ⟨rfl, rfl⟩) | (go_at_call 54; refine (inL_any _ _ _ _).mono ?_; rintro e w' ⟨rfl, rfl⟩))
    all_goals go_ret
    all_goals refine ⟨_, Iff.trans ?_ HI.out.symm, rfl, hbw⟩
    all_goals simp_all
  · have HN : Hid (¬ EntP r.ent) := Lib.hid (fun h => by obtain ⟨t, n, m, h⟩ := h.key; exact hN t n m h)
    clear hN
    go_wp2
    go_ret
    exact IsBB.no (fun h => HN.out h.1) hbw

end Go.Proofs.YtpfanmcjlfdaiaaGreatDoorR

/- What a right state is; a set of texts kept as a Go map from texts to bools that the call made: what it holds, how many. No Go text is walked here. -/
namespace Go.Proofs.YtpfanmcjlfdaiaaGreatDoorR
open Go.ChangeShapes Go.WideShapes Go.ChangeAt Go.RowKit Go.Deep Go.Joins Go.Maps
set_option linter.unusedVariables false
set_option linter.unusedSimpArgs false

theorem Cells.grown {w w' : World} {b o g : Nat} {vs : List Value} (h : Cells w b o vs) (hg : w.grownBy w' (some g)) (hb : b < w.heap.size) (hne : b ≠ g) : Cells w' b o vs := fun j v hv =>
  (World.cell?_of_block (a := ⟨b, o + j, none⟩) (hg.block b hb (fun e => hne (by injection e)))).trans (h j v hv)

/-- where each tier's entries end, in order -/
def endsOf (lo : GTri) (es : List GEnt) : GTri := es.foldl (fun a e => a.set e.tier e.fin) lo

theorem endsOf_succ (lo : GTri) (es : List GEnt) (k : Nat) (h : k < es.length) : endsOf lo (es.take (k + 1)) = (endsOf lo (es.take k)).set es[k].tier es[k].fin := by
  unfold endsOf
  rw [List.take_succ_eq_append_getElem h, List.foldl_append]
  rfl

/-- the k-th entry is right, and goes on where its tier ended -/
def OneP (lo : GTri) (es : List GEnt) (k : Nat) : Prop := ∀ h : k < es.length, EntP es[k] ∧ es[k].beg = (endsOf lo (es.take k)).at es[k].tier

def SideP (lo : GTri) (es : List GEnt) (n : Nat) : Prop := ∀ k, k < n → OneP lo es k

theorem SideP.succ {lo : GTri} {es : List GEnt} {n : Nat} (h : SideP lo es n) (hn : n < es.length) (h1 : EntP es[n]) (h2 : es[n].beg = (endsOf lo (es.take n)).at es[n].tier) : SideP lo es (n + 1) := fun k hk => by
  by_cases e : k = n
  · subst e; exact fun _ => ⟨h1, h2⟩
  · exact h k (by omega)

def LowP (lo : GTri) : Prop := ∀ i, i < 3 → 0 ≤ lo.at (i : Nat) ∧ lo.at (i : Nat) ≤ 100000

def TmbP (sq : Int) (t : GTmb) : Prop := (1 ≤ t.seq ∧ t.seq ≤ sq) ∧ AnyKey t.key

def RestP (sq : Int) (ts : List GTmb) (n : Nat) : Prop := ∀ k, k < n → ∀ h : k < ts.length, TmbP sq ts[k]

theorem RestP.succ {sq : Int} {ts : List GTmb} {n : Nat} (h : RestP sq ts n) (hn : n < ts.length) (h1 : TmbP sq ts[n]) : RestP sq ts (n + 1) := fun k hk => by
  by_cases e : k = n
  · subst e; exact fun _ => h1
  · exact h k (by omega)

/-- all keys, those of entries first, the last one ahead -/
def keysR (es : List GEnt) (ts : List GTmb) (i j : Nat) : List ByteArray := ((ts.take j).map (·.key)).reverse ++ ((es.take i).map (·.key)).reverse

theorem keysR_ent (es : List GEnt) (ts : List GTmb) (i : Nat) (h : i < es.length) : keysR es ts (i + 1) 0 = es[i].key :: keysR es ts i 0 := by
  unfold keysR
  rw [List.take_succ_eq_append_getElem h, List.map_append, List.reverse_append]
  rfl

theorem keysR_tmb (es : List GEnt) (ts : List GTmb) (i j : Nat) (h : j < ts.length) : keysR es ts i (j + 1) = ts[j].key :: keysR es ts i j := by
  unfold keysR
  rw [List.take_succ_eq_append_getElem h, List.map_append, List.reverse_append]
  rfl

theorem keysR_len (es : List GEnt) (ts : List GTmb) (i j : Nat) (hi : i ≤ es.length) (hj : j ≤ ts.length) : (keysR es ts i j).length = i + j := by
  simp [keysR]; omega

def keysN (s : GSt) : Prop := (keysR s.ents s.tmbs s.ents.length s.tmbs.length).Nodup

def SidesP (s : GSt) : Prop := LowP s.lo ∧ SideP s.lo s.ents s.ents.length ∧ endsOf s.lo s.ents = s.hi

/-- a right state -/
def StP (s : GSt) : Prop := inB s.sq 0 999999 = true ∧ inB s.fe 0 999999 = true ∧ s.ents.length + s.tmbs.length ≤ 4096 ∧ SidesP s ∧ RestP s.sq s.tmbs s.tmbs.length ∧ keysN s

theorem txtKeyed : Go.Maps.Keyed Tryz.prog 9 := string_keyed Tryz.underlying9

theorem zeroBoolK (w : World) : (zeroValue 4).run Tryz.prog w = .ok (.bool false) w := by kernel_rfl

def klt (s : ByteArray) : Lit := .string s.data.toList

theorem klt_inj {a b : ByteArray} (h : klt a = klt b) : a = b := by
  unfold klt at h
  injection h with h
  exact ba_eq h

def memB (k : ByteArray) (ks : List ByteArray) : Bool := ks.any fun x => decide (x = k)

theorem memB_iff {k : ByteArray} {ks : List ByteArray} : memB k ks = true ↔ k ∈ ks := by simp [memB]

theorem memB_cons (u k : ByteArray) (ks : List ByteArray) : memB u (k :: ks) = (decide (k = u) || memB u ks) := by simp [memB]

/-- block b is a map from texts to bools that says true just of the texts ks; it has as many entries as they are many, if no two are alike, else fewer -/
def TxtSet (w : World) (b : Nat) (ks : List ByteArray) : Prop :=
  ∃ D : DataW Unit, w.ownsMap Tryz.prog 9 (plainElem Tryz.prog 4) b ks.length D ∧ (∀ k, D.atKey (klt k) (.lit (.bool false)) = .lit (.bool (memB k ks))) ∧ (∀ k, Maps.has D (klt k) = memB k ks) ∧ Maps.size D ≤ ks.length ∧ (Maps.size D = ks.length ↔ ks.Nodup)

theorem run_makeTxtSet (n : Int) (w : World) : (Instr.makeMap 71 (some (.int .i64 n))).run Tryz.prog w = .ok (.map (some w.heap.size)) (w.alloc (.map #[] 0)) := by
  simp [Instr.makeMap, run_underlying Tryz.underlying71]; rfl

theorem TxtSet.made (w : World) : TxtSet (w.alloc (.map #[] 0)) w.heap.size [] := ⟨_, World.ownsMap_made _ _ _ _, fun v => rfl, fun v => rfl, Nat.le_refl _, by simp [Maps.size]⟩

theorem TxtSet.lt {w : World} {b : Nat} {ks : List ByteArray} (h : TxtSet w b ks) : b < w.heap.size := by obtain ⟨D, hown, _⟩ := h; exact hown.lt

theorem TxtSet.grown {w w' : World} {b : Nat} {ks : List ByteArray} (h : TxtSet w b ks) {row : Option Nat} (hg : w.grownBy w' row) (hr : some b ≠ row) : TxtSet w' b ks := by
  obtain ⟨D, hown, hat⟩ := h
  exact ⟨D, hown.kept hg hr, hat⟩

theorem TxtSet.below {w w' : World} {b : Nat} {ks : List ByteArray} (h : TxtSet w b ks) (hb : Below w.heap.size w w') : TxtSet w' b ks := h.grown (grown_of_below hb none) (by simp)

theorem TxtSet.len {w : World} {b : Nat} {ks : List ByteArray} (h : TxtSet w b ks) : ∃ n : Nat, n ≤ ks.length ∧ (n = ks.length ↔ ks.Nodup) ∧ ∀ ty, (Builtin.len_ #[71] ty #[.map (some b)]).run Tryz.prog w = .ok (.int .i64 n) w := by
  obtain ⟨D, hown, _, _, h1, h2⟩ := h
  exact ⟨Maps.size D, h1, h2, fun ty => hown.len Tryz.underlying71 ty⟩

theorem TxtSet.put {w w' : World} {b : Nat} {ks : List ByteArray} {D : DataW Unit} {k : ByteArray} {n : Nat} (hn : n = ks.length + 1) (hD : w.ownsMap Tryz.prog 9 (plainElem Tryz.prog 4) b ks.length D) (hat : ∀ k, D.atKey (klt k) (.lit (.bool false)) = .lit (.bool (memB k ks))) (hh : ∀ k, Maps.has D (klt k) = memB k ks) (h1 : Maps.size D ≤ ks.length) (h2 : Maps.size D = ks.length ↔ ks.Nodup)
    (h : w'.ownsMap Tryz.prog 9 (plainElem Tryz.prog 4) b n (D.put (klt k) (.lit (.bool true)))) : TxtSet w' b (k :: ks) := by
  have hsz := Maps.size_put (k := klt k) (hD.tidy txtKeyed) (.lit (.bool true))
  refine ⟨_, by subst hn; exact h, fun u => ?_, fun u => ?_, ?_, ?_⟩
  · by_cases e : u = k
    · subst e
      rw [atKey_put_same hD.isMap (by trivial)]
      simp [memB_cons]
    · rw [atKey_put_other (fun h => e (klt_inj h)), hat u]
      simp [memB_cons, Ne.symm e]
  · by_cases e : u = k
    · subst e
      rw [has_put_same hD.isMap (by trivial)]
      simp [memB_cons]
    · rw [has_put_other (fun h => e (klt_inj h)), hh u]
      simp [memB_cons, Ne.symm e]
  · rw [hsz]
    simp only [List.length_cons]
    split <;> omega
  · rw [hsz, hh k]
    simp only [List.length_cons, List.nodup_cons]
    by_cases e : k ∈ ks
    · rw [memB_iff.2 e]; simp [e]; omega
    · rw [show memB k ks = false from Bool.eq_false_iff.2 (fun h => e (memB_iff.1 h))]; simp [e, ← h2]

end Go.Proofs.YtpfanmcjlfdaiaaGreatDoorR

/- What a right state's frontiers are bounded by; which window is due. No Go text is walked here. -/
namespace Go.Proofs.YtpfanmcjlfdaiaaGreatDoorR
open Go.ChangeShapes Go.WideShapes Go.ChangeAt Go.RowKit Go.Deep Go.Joins Go.Maps
set_option linter.unusedVariables false
set_option linter.unusedSimpArgs false

def TriIn (t : GTri) (lo hi : Int) : Prop := (lo ≤ t.a ∧ t.a ≤ hi) ∧ (lo ≤ t.b ∧ t.b ≤ hi) ∧ (lo ≤ t.c ∧ t.c ≤ hi)

theorem TriIn.set {t : GTri} {lo hi i v : Int} (h : TriIn t lo hi) (h0 : lo ≤ v) (h1 : v ≤ hi) : TriIn (t.set i v) lo hi := by
  unfold GTri.set TriIn at *
  split
  · exact ⟨⟨h0, h1⟩, h.2.1, h.2.2⟩
  · split
    · exact ⟨h.1, ⟨h0, h1⟩, h.2.2⟩
    · exact ⟨h.1, h.2.1, ⟨h0, h1⟩⟩

theorem EntP.rng {e : GEnt} (h : EntP e) : 0 ≤ e.beg ∧ e.beg < e.fin ∧ e.fin ≤ 100000 := by
  have h1 := rngB_iff.1 h.2.2
  have h2 := h.2.1
  omega

theorem StP.ent {s : GSt} (h : StP s) {k : Nat} (hk : k < s.ents.length) : EntP s.ents[k] := (h.2.2.2.1.2.1 k hk hk).1

theorem LowP.tri {t : GTri} (h : LowP t) : TriIn t 0 100000 := by
  have h0 := h 0 (by omega)
  have h1 := h 1 (by omega)
  have h2 := h 2 (by omega)
  simp [GTri.at] at h0 h1 h2
  exact ⟨h0, h1, h2⟩

/-- the tier whose next window is due, where that begins, whether there is one -/
def dueV (s : GSt) : Int × Int × Bool := if s.hi.b + 5 ≤ s.hi.a then (1, s.hi.b, true) else if s.hi.c + 20 ≤ s.hi.b then (2, s.hi.c, true) else (0, 0, false)

def DueVal (s : GSt) (p q : Int) (b : Bool) (z : Int) : Prop := (StP s ∧ p = (dueV s).1 ∧ q = (dueV s).2.1 ∧ b = (dueV s).2.2 ∧ z = 0) ∨ (¬ StP s ∧ p = 0 ∧ q = 0 ∧ b = false ∧ z = 1)

theorem DueVal.one {s : GSt} {p q p' q' z z' : Int} {b b' : Bool} (h : DueVal s p q b z) (h' : DueVal s p' q' b' z') : p' = p ∧ q' = q ∧ b' = b ∧ z' = z := by
  rcases h with ⟨h0, rfl, rfl, rfl, rfl⟩ | ⟨h0, rfl, rfl, rfl, rfl⟩ <;> rcases h' with ⟨k0, rfl, rfl, rfl, rfl⟩ | ⟨k0, rfl, rfl, rfl, rfl⟩
  · exact ⟨rfl, rfl, rfl, rfl⟩
  · exact absurd h0 k0
  · exact absurd k0 h0
  · exact ⟨rfl, rfl, rfl, rfl⟩

end Go.Proofs.YtpfanmcjlfdaiaaGreatDoorR

/- A tier's first entry; which entry is to go. No Go text is walked here. -/
namespace Go.Proofs.YtpfanmcjlfdaiaaGreatDoorR
open Go.ChangeShapes Go.WideShapes Go.ChangeAt Go.RowKit Go.Deep Go.Joins Go.Maps
set_option linter.unusedVariables false
set_option linter.unusedSimpArgs false

/-- a tier's first entry -/
def firstE (es : List GEnt) (t : Int) : Option GEnt := es.find? fun e => e.tier == t

/-- none of the first k is of that tier -/
def NoT (es : List GEnt) (t : Int) (k : Nat) : Prop := ∀ j (hj : j < es.length), j < k → (es[j].tier == t) = false

theorem NoT.zero (es : List GEnt) (t : Int) : NoT es t 0 := fun j hj h => by omega

theorem NoT.succ {es : List GEnt} {t : Int} {k : Nat} (h : NoT es t k) (h1 : ∀ hk : k < es.length, (es[k].tier == t) = false) : NoT es t (k + 1) := fun j hj hjk => by
  by_cases e : j = k
  · subst e; exact h1 hj
  · exact h j hj (by omega)

theorem firstE_at {es : List GEnt} {t : Int} {k : Nat} (h : NoT es t k) (hk : k < es.length) (h1 : (es[k].tier == t) = true) : firstE es t = some es[k] := by
  unfold firstE
  rw [List.find?_eq_some_iff_getElem]
  exact ⟨h1, k, hk, rfl, fun j hj => by simp [h j (by omega) hj]⟩

theorem firstE_no {es : List GEnt} {t : Int} {k : Nat} (h : NoT es t k) (hk : es.length ≤ k) : firstE es t = none := by
  unfold firstE
  rw [List.find?_eq_none]
  intro x hx
  obtain ⟨j, hj, rfl⟩ := List.getElem_of_mem hx
  simp [h j hj (by omega)]

theorem firstE_mem {es : List GEnt} {t : Int} {e : GEnt} (h : firstE es t = some e) : e ∈ es ∧ e.tier = t := by
  unfold firstE at h
  exact ⟨List.mem_of_find?_eq_some h, by simpa using List.find?_some h⟩

def upB (s : GSt) (k : Nat) (e : GEnt) : Bool := decide (k = 2) || decide (e.fin ≤ s.hi.at ((k + 1 : Nat) : Int))

/-- old enough, and rolled up -/
def ageB (s : GSt) (now : Int) (k : Nat) (e : GEnt) : Bool := decide (e.fin + kep k ≤ now) && upB s k e

def expAt (s : GSt) (now : Int) (k : Nat) : Option GEnt := match firstE s.ents k with
  | some e => if ageB s now k e = true then some e else none
  | none => none

/-- the entry that is to go -/
def expV (s : GSt) (now : Int) : Option GEnt := match expAt s now 0 with
  | some e => some e
  | none => match expAt s now 1 with
    | some e => some e
    | none => expAt s now 2

def NowP (now : Int) : Prop := 0 ≤ now ∧ now ≤ 101000

def ExpVal (s : GSt) (now : Int) (e : GEnt) (b : Bool) (z : Int) : Prop :=
  (StP s ∧ NowP now ∧ e = (expV s now).getD zEnt ∧ b = (expV s now).isSome ∧ z = 0) ∨ (¬ StP s ∧ e = zEnt ∧ b = false ∧ z = 1) ∨ (StP s ∧ ¬ NowP now ∧ e = zEnt ∧ b = false ∧ z = 4)

theorem ExpVal.one {s : GSt} {now : Int} {e e' : GEnt} {b b' : Bool} {z z' : Int} (h : ExpVal s now e b z) (h' : ExpVal s now e' b' z') : e' = e ∧ b' = b ∧ z' = z := by
  rcases h with ⟨h0, h1, rfl, rfl, rfl⟩ | ⟨h0, rfl, rfl, rfl⟩ | ⟨h0, h1, rfl, rfl, rfl⟩ <;> rcases h' with ⟨k0, k1, rfl, rfl, rfl⟩ | ⟨k0, rfl, rfl, rfl⟩ | ⟨k0, k1, rfl, rfl, rfl⟩
  all_goals first | exact ⟨rfl, rfl, rfl⟩ | exact absurd h0 k0 | exact absurd k0 h0 | exact absurd h1 k1 | exact absurd k1 h1

end Go.Proofs.YtpfanmcjlfdaiaaGreatDoorR

/- What a right entry and a right record are; contracts of what asks whether one is right, in both packages. Conditions: the program's table of paths is as its text lays it; a text's length. -/
namespace Go.Proofs.YtpfanmcjlfdaiaaGreatDoorR
open Go.ChangeShapes Go.WideShapes Go.ChangeAt Go.RowKit Go.Deep Go.Joins
set_option linter.unusedVariables false
set_option linter.unusedSimpArgs false

set_option maxRecDepth 100000 in
theorem rightAdd_any (r : GRec) (w : World) (hk : r.key.size ≤ 2 ^ 63 - 1) (hp : Paths w) (hz : 1 < w.heap.size) : Calls Tryz.prog 93 #[.agg #[.int .i64 r.kind, .int .i64 r.tok, .int .i64 r.tier, .int .i64 r.beg, .int .i64 r.fin, .string r.key]] w (IsBB (r.tok = 0 ∧ r.tier = 0 ∧ EntP r.ent) w) := by
  have HP : Hid (∀ w', Below w.heap.size w w' → Paths w' ∧ 1 < w'.heap.size) := Lib.hid (fun w' h => ⟨hp.below h hz, Nat.lt_of_lt_of_le hz h.size⟩)
  clear hp
  obtain ⟨P, hP⟩ : ∃ P, P = (r.tok = 0 ∧ r.tier = 0 ∧ EntP r.ent) := ⟨_, rfl⟩
  rw [← hP]
  have HPP := Lib.hid hP; clear hP
  cases d0 : (r.tok == 0)
  · have HN : Hid (¬ P) := Lib.hid (by rw [HPP.out]; intro h; have := h.1; simp_all)
    go_enter Tryz.func93, Tryz.ntmps93
    go_wp2_with fail
    go_ret
    exact IsBB.no HN.out (bal (Below.refl _ _) _)
  cases d1 : (r.tier == 0)
  · have HN : Hid (¬ P) := Lib.hid (by rw [HPP.out]; intro h; have := h.2.1; simp_all)
    go_enter Tryz.func93, Tryz.ntmps93
    go_wp2_with fail
    go_ret
    exact IsBB.no HN.out (bal (Below.refl _ _) _)
  have HI : Hid (P ↔ EntP r.ent) := Lib.hid (by rw [HPP.out]; simp_all)
  go_enter Tryz.func93, Tryz.ntmps93
  go_wp2_with fail
  refine (entry_any r _).mono ?_
  rintro e w1 ⟨rfl, hb1⟩
  have b1 : Below w.heap.size w w1 := bnext (bal (Below.refl _ _) _) hb1
  clear hb1
  go_wp2_with fail
  refine (entRight_any r.ent w1 hk (HP.out _ b1).1 (HP.out _ b1).2).mono ?_
  rintro e w2 ⟨b, hb, rfl, hb2⟩
  have b2 := bnext b1 hb2
  have Hb := Lib.hid (hb.trans HI.out.symm); clear hb hb2 HI
  go_wp2
  go_ret
  exact ⟨b, Hb.out, rfl, b2⟩

set_option maxRecDepth 100000 in
theorem rightPublish_any (r : GRec) (w : World) (hk : r.key.size ≤ 2 ^ 63 - 1) (hp : Paths w) (hz : 1 < w.heap.size) : Calls Tryz.prog 99 #[.agg #[.int .i64 r.kind, .int .i64 r.tok, .int .i64 r.tier, .int .i64 r.beg, .int .i64 r.fin, .string r.key]] w (IsBB (inB r.tok 1 999999 = true ∧ r.tier ≠ 0 ∧ EntP r.ent) w) := by
  have HP : Hid (∀ w', Below w.heap.size w w' → Paths w' ∧ 1 < w'.heap.size) := Lib.hid (fun w' h => ⟨hp.below h hz, Nat.lt_of_lt_of_le hz h.size⟩)
  clear hp
  obtain ⟨P, hP⟩ : ∃ P, P = (inB r.tok 1 999999 = true ∧ r.tier ≠ 0 ∧ EntP r.ent) := ⟨_, rfl⟩
  rw [← hP]
  have HPP := Lib.hid hP; clear hP
  cases d0 : inB r.tok 1 999999
  · have HN : Hid (¬ P) := Lib.hid (by rw [HPP.out]; intro h; have := h.1; simp_all)
    go_enter Tryz.func99, Tryz.ntmps99
    go_wp2_with (go_at_call 119; refine (isToken_any _ _).mono ?_; rintro e w' ⟨rfl, rfl⟩)
    go_ret
    exact IsBB.no HN.out (bal (Below.refl _ _) _)
  cases d1 : (r.tier != 0)
  · have HN : Hid (¬ P) := Lib.hid (by rw [HPP.out]; intro h; have := h.2.1; simp_all)
    go_enter Tryz.func99, Tryz.ntmps99
    go_wp2_with (go_at_call 119; refine (isToken_any _ _).mono ?_; rintro e w' ⟨rfl, rfl⟩)
    go_ret
    exact IsBB.no HN.out (bal (Below.refl _ _) _)
  have HI : Hid (P ↔ EntP r.ent) := Lib.hid (by rw [HPP.out]; simp_all)
  go_enter Tryz.func99, Tryz.ntmps99
  go_wp2_with (go_at_call 119; refine (isToken_any _ _).mono ?_; rintro e w' ⟨rfl, rfl⟩)
  refine (entry_any r _).mono ?_
  rintro e w1 ⟨rfl, hb1⟩
  have b1 : Below w.heap.size w w1 := bnext (bal (Below.refl _ _) _) hb1
  clear hb1
  go_wp2_with fail
  refine (entRight_any r.ent w1 hk (HP.out _ b1).1 (HP.out _ b1).2).mono ?_
  rintro e w2 ⟨b, hb, rfl, hb2⟩
  have b2 := bnext b1 hb2
  have Hb := Lib.hid (hb.trans HI.out.symm); clear hb hb2 HI
  go_wp2
  go_ret
  exact ⟨b, Hb.out, rfl, b2⟩

set_option maxRecDepth 100000 in
theorem rightRetire_any (r : GRec) (w : World) (hk : r.key.size ≤ 2 ^ 63 - 1) (hp : Paths w) (hz : 1 < w.heap.size) : Calls Tryz.prog 101 #[.agg #[.int .i64 r.kind, .int .i64 r.tok, .int .i64 r.tier, .int .i64 r.beg, .int .i64 r.fin, .string r.key]] w (IsBB (inB r.tok 1 999999 = true ∧ EntP r.ent) w) := by
  have HP : Hid (∀ w', Below w.heap.size w w' → Paths w' ∧ 1 < w'.heap.size) := Lib.hid (fun w' h => ⟨hp.below h hz, Nat.lt_of_lt_of_le hz h.size⟩)
  clear hp
  obtain ⟨P, hP⟩ : ∃ P, P = (inB r.tok 1 999999 = true ∧ EntP r.ent) := ⟨_, rfl⟩
  rw [← hP]
  have HPP := Lib.hid hP; clear hP
  cases d0 : inB r.tok 1 999999
  · have HN : Hid (¬ P) := Lib.hid (by rw [HPP.out]; intro h; have := h.1; simp_all)
    go_enter Tryz.func101, Tryz.ntmps101
    go_wp2_with (go_at_call 119; refine (isToken_any _ _).mono ?_; rintro e w' ⟨rfl, rfl⟩)
    go_ret
    exact IsBB.no HN.out (bal (Below.refl _ _) _)
  have HI : Hid (P ↔ EntP r.ent) := Lib.hid (by rw [HPP.out]; simp_all)
  go_enter Tryz.func101, Tryz.ntmps101
  go_wp2_with (go_at_call 119; refine (isToken_any _ _).mono ?_; rintro e w' ⟨rfl, rfl⟩)
  refine (entry_any r _).mono ?_
  rintro e w1 ⟨rfl, hb1⟩
  have b1 : Below w.heap.size w w1 := bnext (bal (Below.refl _ _) _) hb1
  clear hb1
  go_wp2_with fail
  refine (entRight_any r.ent w1 hk (HP.out _ b1).1 (HP.out _ b1).2).mono ?_
  rintro e w2 ⟨b, hb, rfl, hb2⟩
  have b2 := bnext b1 hb2
  have Hb := Lib.hid (hb.trans HI.out.symm); clear hb hb2 HI
  go_wp2
  go_ret
  exact ⟨b, Hb.out, rfl, b2⟩

theorem rightClaim_any (r : GRec) (w : World) : Calls Tryz.prog 96 #[.agg #[.int .i64 r.kind, .int .i64 r.tok, .int .i64 r.tier, .int .i64 r.beg, .int .i64 r.fin, .string r.key]] w (IsBB (inB r.tok 1 999999 = true ∧ r.tier = 0 ∧ r.beg = 0 ∧ r.fin = 0 ∧ r.key = ⟨#[]⟩) w) := by
  have HI : Hid ((inB r.tok 1 999999 = true ∧ r.tier = 0 ∧ r.beg = 0 ∧ r.fin = 0 ∧ r.key = ⟨#[]⟩) ↔ (inB r.tok 1 999999 = true ∧ (r.tier == 0) = true ∧ (r.beg == 0) = true ∧ (r.fin == 0) = true ∧ (r.key.toList == (⟨#[]⟩ : ByteArray).toList) = true)) := Lib.hid (by rw [nil_list]; simp)
  go_enter Tryz.func96, Tryz.ntmps96
  go_wp2_with (go_at_call 119; refine (isToken_any _ _).mono ?_; rintro e w' ⟨rfl, rfl⟩)
  all_goals go_ret
  all_goals refine ⟨_, Iff.trans ?_ HI.out.symm, rfl, bal (Below.refl _ _) _⟩
  all_goals simp_all

theorem rightPurge_any (r : GRec) (w : World) (hk : r.key.size ≤ 2 ^ 63 - 1) (hp : Paths w) (hz : 1 < w.heap.size) : Calls Tryz.prog 104 #[.agg #[.int .i64 r.kind, .int .i64 r.tok, .int .i64 r.tier, .int .i64 r.beg, .int .i64 r.fin, .string r.key]] w (IsBB (r.tok = 0 ∧ r.tier = 0 ∧ r.beg = 0 ∧ r.fin = 0 ∧ AnyKey r.key) w) := by
  have HI : Hid ((r.tok = 0 ∧ r.tier = 0 ∧ r.beg = 0 ∧ r.fin = 0 ∧ AnyKey r.key) ↔ (AnyKey r.key ∧ (r.tok == 0) = true ∧ (r.tier == 0) = true ∧ (r.beg == 0) = true ∧ (r.fin == 0) = true)) := Lib.hid (by simp only [beq_iff_eq]; constructor <;> (rintro ⟨a, b, c, d, e⟩; exact ⟨by assumption, by assumption, by assumption, by assumption, by assumption⟩))
  have Hp := Lib.hid hp; clear hp
  go_enter Tryz.func104, Tryz.ntmps104
  go_wp2_with fail
  refine (isDataKey_any r.key _ hk (Hp.out.below (bal (Below.refl _ _) _) hz) (by simp <;> omega)).mono ?_
  rintro e w1 ⟨b, hb, rfl, hB⟩
  obtain ⟨c0, c1, c2, c3, c4, c5⟩ : w1.cell? ⟨w.heap.size, 0, none⟩ = some (.int .i64 r.kind) ∧ w1.cell? ⟨w.heap.size, 1, none⟩ = some (.int .i64 r.tok) ∧ w1.cell? ⟨w.heap.size, 2, none⟩ = some (.int .i64 r.tier) ∧ w1.cell? ⟨w.heap.size, 3, none⟩ = some (.int .i64 r.beg) ∧ w1.cell? ⟨w.heap.size, 4, none⟩ = some (.int .i64 r.fin) ∧ w1.cell? ⟨w.heap.size, 5, none⟩ = some (.string r.key) := (RecAt.below (RecAt.new w r 38) hB (by simp)).cells
  have hbw : Below w.heap.size w w1 := (bal (Below.refl _ _) _).trans (hB.mono (by simp))
  clear hB
  cases b
  · have HN : Hid (¬ AnyKey r.key) := Lib.hid (fun h => by have := hb.2 h; cases this)
    clear hb
    go_wp2
    go_ret
    exact IsBB.no (fun h => HN.out h.2.2.2.2) hbw
  · have HY : Hid ((r.tok = 0 ∧ r.tier = 0 ∧ r.beg = 0 ∧ r.fin = 0 ∧ AnyKey r.key) ↔ ((r.tok == 0) = true ∧ (r.tier == 0) = true ∧ (r.beg == 0) = true ∧ (r.fin == 0) = true)) := Lib.hid (by simp [hb.1 rfl])
    clear hb HI
    go_wp2
    all_goals go_ret
    all_goals refine ⟨_, Iff.trans ?_ HY.out.symm, rfl, hbw⟩
    all_goals simp_all

end Go.Proofs.YtpfanmcjlfdaiaaGreatDoorR

/- Contract of the model's l06First: the place of a tier's first entry. Conditions: lengths. -/
namespace Go.Proofs.YtpfanmcjlfdaiaaGreatDoorR
open Go.ChangeShapes Go.WideShapes Go.ChangeAt Go.RowKit Go.Deep Go.Joins Go.Maps
set_option linter.unusedVariables false
set_option linter.unusedSimpArgs false

def FstP (es : List GEnt) (t n : Int) : Prop := (firstE es t = none ∧ n = -1) ∨ ∃ k : Nat, ∃ hk : k < es.length, n = k ∧ firstE es t = some es[k] ∧ NoT es t k

set_option maxRecDepth 100000 in
theorem l06First_any (A : Option Addr) (c : Nat) (A2 : Option Addr) (c2 : Nat) (s : GSt) (t : Int) (B : Nat) (w : World) (h : StAt w B A A2 s) (hB : B ≤ w.heap.size) (hl : s.ents.length ≤ 1048576) :
    Calls Tryz.prog 59 #[.agg #[.int .i64 s.sq, .int .i64 s.fe, .slice A s.ents.length c, .slice A2 s.tmbs.length c2, .int .i64 s.lo.a, .int .i64 s.lo.b, .int .i64 s.lo.c, .int .i64 s.hi.a, .int .i64 s.hi.b, .int .i64 s.hi.c], .int .i64 t] w fun r w' => ∃ n, FstP s.ents t n ∧ r = .returned (.int .i64 n) ∧ Below w.heap.size w w' := by
  have H := Lib.hid h; clear h
  go_enter Tryz.func59, Tryz.ntmps59
  go_wp2_with fail
  have CA : Hid (Cells (w.alloc (.cells #[.int .i64 s.sq, .int .i64 s.fe, .slice A s.ents.length c, .slice A2 s.tmbs.length c2, .int .i64 s.lo.a, .int .i64 s.lo.b, .int .i64 s.lo.c, .int .i64 s.hi.a, .int .i64 s.hi.b, .int .i64 s.hi.c] 34)) w.heap.size 0 [.int .i64 s.sq, .int .i64 s.fe, .slice A s.ents.length c, .slice A2 s.tmbs.length c2, .int .i64 s.lo.a, .int .i64 s.lo.b, .int .i64 s.lo.c, .int .i64 s.hi.a, .int .i64 s.hi.b, .int .i64 s.hi.c]) := Lib.hid (Cells.new w _ _)
  have b0 : Below w.heap.size w (w.alloc (.cells #[.int .i64 s.sq, .int .i64 s.fe, .slice A s.ents.length c, .slice A2 s.tmbs.length c2, .int .i64 s.lo.a, .int .i64 s.lo.b, .int .i64 s.lo.c, .int .i64 s.hi.a, .int .i64 s.hi.b, .int .i64 s.hi.c] 34)) := bal (Below.refl _ _) _
  have s0 : w.heap.size < (w.alloc (.cells #[.int .i64 s.sq, .int .i64 s.fe, .slice A s.ents.length c, .slice A2 s.tmbs.length c2, .int .i64 s.lo.a, .int .i64 s.lo.b, .int .i64 s.lo.c, .int .i64 s.hi.a, .int .i64 s.hi.b, .int .i64 s.hi.c] 34)).heap.size := by simp
  have HS := Lib.hid (H.out.below b0 hB)
  generalize w.alloc (.cells #[.int .i64 s.sq, .int .i64 s.fe, .slice A s.ents.length c, .slice A2 s.tmbs.length c2, .int .i64 s.lo.a, .int .i64 s.lo.b, .int .i64 s.lo.c, .int .i64 s.hi.a, .int .i64 s.hi.b, .int .i64 s.hi.c] 34) = W at *
  obtain ⟨c0, c1, c2', c3, c4, c5, c6, c7, c8, c9⟩ := CA.out.ten
  clear c0 c1 c3 c4 c5 c6 c7 c8 c9
  go_loopw [5] (fun i wr => ∃ k : Nat, k ≤ s.ents.length ∧ i = .int .i64 k ∧ Hid (NoT s.ents t k) ∧ wr = W) (fun i _ => s.ents.length - (intOf i).toNat)
  case atStart => exact ⟨0, by omega, rfl, Lib.hid (NoT.zero _ _), rfl⟩
  case round =>
    obtain ⟨k, hk, rfl, HN, rfl⟩ := hrel
    by_cases hlt : k < s.ents.length
    · obtain ⟨b1, o1, rfl, hb1, p0, p1, p2, p3⟩ := EntsAt.one HS.out.1 hlt
      have i1 : (0 : Int) ≤ (k : Int) := by omega
      have i2 : (k : Int) < (s.ents.length : Int) := by omega
      have HV1 := Lib.hid (fun (h1 : (s.ents[k].tier == t) = true) => (Or.inr ⟨k, hlt, rfl, firstE_at HN.out hlt h1, HN.out⟩ : FstP s.ents t k))
      have HN1 := Lib.hid (fun (h1 : (s.ents[k].tier == t) = false) => HN.out.succ (fun _ => h1))
      generalize s.ents[k] = e at *
      clear HN
      cases ht : (e.tier == t)
      · have N1 := HN1.out ht
        have HN2 := Lib.hid N1; clear N1 HN1 HV1
        go_wp2_with fail
        go_roundw
        case rel => exact ⟨k + 1, by omega, by simp, HN2, by first | rfl | trivial⟩
        case measure => simp [intOf]; omega
      · have HV2 := Lib.hid (HV1.out ht)
        clear HV1 HN1
        go_wp2
        go_ret
        exact ⟨_, HV2.out, rfl, b0⟩
    · have hv := firstE_no HN.out (by omega)
      have HV := Lib.hid hv; clear hv
      go_wp2
      go_ret
      exact ⟨-1, Or.inl ⟨HV.out, rfl⟩, rfl, b0⟩

end Go.Proofs.YtpfanmcjlfdaiaaGreatDoorR

/- Contracts of the program's (State).size, restsRight, keys, sideBySide. Conditions: the program's table of paths is as its text lays it; lengths. -/
namespace Go.Proofs.YtpfanmcjlfdaiaaGreatDoorR
open Go.ChangeShapes Go.WideShapes Go.ChangeAt Go.RowKit Go.Deep Go.Joins Go.Maps
set_option linter.unusedVariables false
set_option linter.unusedSimpArgs false

theorem stSize_any (A : Option Addr) (c : Nat) (A2 : Option Addr) (c2 : Nat) (s : GSt) (w : World) (hl : s.ents.length ≤ 1048576) (hl2 : s.tmbs.length ≤ 1048576) : Calls Tryz.prog 31 #[.agg #[.int .i64 s.sq, .int .i64 s.fe, .slice A s.ents.length c, .slice A2 s.tmbs.length c2, .int .i64 s.lo.a, .int .i64 s.lo.b, .int .i64 s.lo.c, .int .i64 s.hi.a, .int .i64 s.hi.b, .int .i64 s.hi.c]] w fun e w' => e = .returned (.int .i64 ((s.ents.length + s.tmbs.length : Nat) : Int)) ∧ Below w.heap.size w w' := by
  have wz : wrap64 ((s.ents.length : Int) + (s.tmbs.length : Int)) = ((s.ents.length + s.tmbs.length : Nat) : Int) := by unfold wrap64; omega
  go_enter Tryz.func31, Tryz.ntmps31
  go_wp2
  go_ret
  exact ⟨by simp <;> omega, bal (Below.refl _ _) _⟩

set_option maxRecDepth 100000 in
theorem restsRight_any (A : Option Addr) (c : Nat) (A2 : Option Addr) (c2 : Nat) (s : GSt) (B : Nat) (w : World) (h : StAt w B A A2 s) (hB : B ≤ w.heap.size) (hf : ∀ o ∈ s.tmbs, o.fit) (hl2 : s.tmbs.length ≤ 1048576) (hp : Paths w) (hz : 1 < w.heap.size) : Calls Tryz.prog 64 #[.agg #[.int .i64 s.sq, .int .i64 s.fe, .slice A s.ents.length c, .slice A2 s.tmbs.length c2, .int .i64 s.lo.a, .int .i64 s.lo.b, .int .i64 s.lo.c, .int .i64 s.hi.a, .int .i64 s.hi.b, .int .i64 s.hi.c]] w (IsBB (RestP s.sq s.tmbs s.tmbs.length) w) := by
  have H := Lib.hid h; clear h
  have Hf := Lib.hid hf; clear hf
  have HP : Hid (∀ w', Below w.heap.size w w' → Paths w' ∧ 1 < w'.heap.size) := Lib.hid (fun w' h => ⟨hp.below h hz, Nat.lt_of_lt_of_le hz h.size⟩)
  clear hp
  go_enter Tryz.func64, Tryz.ntmps64
  go_wp2_with fail
  have CA : Hid (Cells (w.alloc (.cells #[.int .i64 s.sq, .int .i64 s.fe, .slice A s.ents.length c, .slice A2 s.tmbs.length c2, .int .i64 s.lo.a, .int .i64 s.lo.b, .int .i64 s.lo.c, .int .i64 s.hi.a, .int .i64 s.hi.b, .int .i64 s.hi.c] 34)) w.heap.size 0 [.int .i64 s.sq, .int .i64 s.fe, .slice A s.ents.length c, .slice A2 s.tmbs.length c2, .int .i64 s.lo.a, .int .i64 s.lo.b, .int .i64 s.lo.c, .int .i64 s.hi.a, .int .i64 s.hi.b, .int .i64 s.hi.c]) := Lib.hid (Cells.new w _ _)
  have b0 : Below w.heap.size w (w.alloc (.cells #[.int .i64 s.sq, .int .i64 s.fe, .slice A s.ents.length c, .slice A2 s.tmbs.length c2, .int .i64 s.lo.a, .int .i64 s.lo.b, .int .i64 s.lo.c, .int .i64 s.hi.a, .int .i64 s.hi.b, .int .i64 s.hi.c] 34)) := bal (Below.refl _ _) _
  have s0 : w.heap.size < (w.alloc (.cells #[.int .i64 s.sq, .int .i64 s.fe, .slice A s.ents.length c, .slice A2 s.tmbs.length c2, .int .i64 s.lo.a, .int .i64 s.lo.b, .int .i64 s.lo.c, .int .i64 s.hi.a, .int .i64 s.hi.b, .int .i64 s.hi.c] 34)).heap.size := by simp
  generalize w.alloc (.cells #[.int .i64 s.sq, .int .i64 s.fe, .slice A s.ents.length c, .slice A2 s.tmbs.length c2, .int .i64 s.lo.a, .int .i64 s.lo.b, .int .i64 s.lo.c, .int .i64 s.hi.a, .int .i64 s.hi.b, .int .i64 s.hi.c] 34) = W at *
  generalize hx0 : w.heap.size = x0 at *
  have Hx0 := Lib.hid hx0; clear hx0
  obtain ⟨t0, t1, t2, t3, t4, t5, t6, t7, t8, t9⟩ := CA.out.ten
  go_wp2_with fail
  go_loopw [8] (fun i wr => ∃ k : Nat, k ≤ s.tmbs.length ∧ i = .int .i64 k ∧ Hid (RestP s.sq s.tmbs k) ∧ Hid (Cells wr x0 0 [.int .i64 s.sq, .int .i64 s.fe, .slice A s.ents.length c, .slice A2 s.tmbs.length c2, .int .i64 s.lo.a, .int .i64 s.lo.b, .int .i64 s.lo.c, .int .i64 s.hi.a, .int .i64 s.hi.b, .int .i64 s.hi.c]) ∧ Hid (x0 < wr.heap.size) ∧ Below x0 w wr) (fun i _ => s.tmbs.length - (intOf i).toNat)
  case atStart => exact ⟨0, by omega, rfl, Lib.hid (fun k hk => by omega), CA, Lib.hid s0, b0⟩
  case round =>
    clear CA b0 s0 t0 t1 t2 t3 t4 t5 t6 t7 t8 t9
    obtain ⟨k, hk, rfl, HR, CA, HS, hb⟩ := hrel
    by_cases hlt : k < s.tmbs.length
    · obtain ⟨b1, o1, rfl, hb1, p0, p1⟩ := TmbsAt.one (Sl.below H.out.2 hb (by have := Hx0.out; omega)) hlt
      obtain ⟨t0, t1, t2, t3, t4, t5, t6, t7, t8, t9⟩ := CA.out.ten
      have hfit := Hf.out _ (List.getElem_mem hlt)
      have Hfit := Lib.hid hfit.2; clear hfit
      have hxs : x0 < wr.heap.size := HS.out
      cases hin : inB s.tmbs[k].seq 1 s.sq
      · have HN := Lib.hid (show ¬ RestP s.sq s.tmbs s.tmbs.length from fun h => by
          have := (h k hlt hlt).1
          rw [← inB_iff, hin] at this
          cases this)
        go_wp2_with (go_at_call 62; refine (within_any _ _ _ _).mono ?_; rintro e w' ⟨rfl, rfl⟩)
        go_ret
        exact IsBB.no HN.out (by rw [Hx0.out]; exact hb.alloc (by have := hb.size; have := Hx0.out; omega) _)
      have HIN := Lib.hid (inB_iff.1 hin)
      go_wp2_with (go_at_call 62; refine (within_any _ _ _ _).mono ?_; rintro e w' ⟨rfl, rfl⟩)
      have hbA : Below x0 w (wr.alloc (.cells #[.int .i64 s.tmbs[k].seq, .string s.tmbs[k].key] 108)) := hb.alloc (by have := hb.size; have := Hx0.out; omega) _
      have CA2 := Lib.hid (CA.out.below (bal (Below.refl _ wr) (.cells #[.int .i64 s.tmbs[k].seq, .string s.tmbs[k].key] 108)) HS.out)
      have HS2 := Lib.hid (show x0 < (wr.alloc (.cells #[.int .i64 s.tmbs[k].seq, .string s.tmbs[k].key] 108)).heap.size by have := HS.out; simp; omega)
      clear hin p0 p1 t0 t1 t2 t3 t4 t5 t6 t7 t8 t9 CA HS
      generalize wr.alloc (.cells #[.int .i64 s.tmbs[k].seq, .string s.tmbs[k].key] 108) = W2 at *
      refine (isDataKey_any s.tmbs[k].key W2 (by have := Hfit.out; unfold maxLen at this; omega) (HP.out _ hbA).1 (HP.out _ hbA).2).mono ?_
      rintro e w3 ⟨b, hbk, rfl, hb3⟩
      have b3 : Below x0 w w3 := hbA.trans (hb3.mono (Nat.le_of_lt HS2.out))
      have CA3 := Lib.hid (CA2.out.below hb3 HS2.out)
      have HS3 := Lib.hid (Nat.lt_of_lt_of_le HS2.out hb3.size)
      clear hb3 CA2 HS2 hbA
      cases b
      · have HN := Lib.hid (show ¬ RestP s.sq s.tmbs s.tmbs.length from fun h => by have := hbk.2 (h k hlt hlt).2; cases this)
        clear hbk
        go_wp2
        go_ret
        exact IsBB.no HN.out (by rw [Hx0.out]; exact b3)
      · have HR2 := Lib.hid (HR.out.succ hlt ⟨HIN.out, hbk.1 rfl⟩)
        clear hbk HR
        go_wp2
        go_roundw
        case rel => exact ⟨k + 1, by omega, by go_num, HR2, CA3, HS3, b3⟩
        case measure => simp [intOf]; omega
    · obtain rfl : k = s.tmbs.length := by omega
      go_wp2
      go_ret
      exact IsBB.yes HR.out (by rw [Hx0.out]; exact hb)

set_option maxRecDepth 100000 in
theorem stKeys_any (A : Option Addr) (c : Nat) (A2 : Option Addr) (c2 : Nat) (s : GSt) (B : Nat) (w : World) (h : StAt w B A A2 s) (hB : B ≤ w.heap.size) (hf : ∀ o ∈ s.ents, o.fit) (hf2 : ∀ o ∈ s.tmbs, o.fit) (hl : s.ents.length ≤ 1048576) (hl2 : s.tmbs.length ≤ 1048576) : Calls Tryz.prog 65 #[.agg #[.int .i64 s.sq, .int .i64 s.fe, .slice A s.ents.length c, .slice A2 s.tmbs.length c2, .int .i64 s.lo.a, .int .i64 s.lo.b, .int .i64 s.lo.c, .int .i64 s.hi.a, .int .i64 s.hi.b, .int .i64 s.hi.c]] w fun e w' => ∃ m, e = .returned (.map (some m)) ∧ TxtSet w' m (keysR s.ents s.tmbs s.ents.length s.tmbs.length) ∧ w.heap.size ≤ m ∧ Below w.heap.size w w' := by
  have H := Lib.hid h; clear h
  have Hf := Lib.hid hf; clear hf
  have Hf2 := Lib.hid hf2; clear hf2
  obtain ⟨n, hn⟩ : ∃ n : Int, n = ((s.ents.length + s.tmbs.length : Nat) : Int) := ⟨_, rfl⟩
  have hcs := fun W => stSize_any A c A2 c2 s W hl hl2
  rw [← hn] at hcs
  have HCS := Lib.hid hcs; clear hcs hn
  have hmk := run_makeTxtSet n
  go_enter Tryz.func65, Tryz.ntmps65
  go_wp2_with fail
  have CA : Hid (Cells (w.alloc (.cells #[.int .i64 s.sq, .int .i64 s.fe, .slice A s.ents.length c, .slice A2 s.tmbs.length c2, .int .i64 s.lo.a, .int .i64 s.lo.b, .int .i64 s.lo.c, .int .i64 s.hi.a, .int .i64 s.hi.b, .int .i64 s.hi.c] 34)) w.heap.size 0 [.int .i64 s.sq, .int .i64 s.fe, .slice A s.ents.length c, .slice A2 s.tmbs.length c2, .int .i64 s.lo.a, .int .i64 s.lo.b, .int .i64 s.lo.c, .int .i64 s.hi.a, .int .i64 s.hi.b, .int .i64 s.hi.c]) := Lib.hid (Cells.new w _ _)
  have b0 : Below w.heap.size w (w.alloc (.cells #[.int .i64 s.sq, .int .i64 s.fe, .slice A s.ents.length c, .slice A2 s.tmbs.length c2, .int .i64 s.lo.a, .int .i64 s.lo.b, .int .i64 s.lo.c, .int .i64 s.hi.a, .int .i64 s.hi.b, .int .i64 s.hi.c] 34)) := bal (Below.refl _ _) _
  have s0 : w.heap.size < (w.alloc (.cells #[.int .i64 s.sq, .int .i64 s.fe, .slice A s.ents.length c, .slice A2 s.tmbs.length c2, .int .i64 s.lo.a, .int .i64 s.lo.b, .int .i64 s.lo.c, .int .i64 s.hi.a, .int .i64 s.hi.b, .int .i64 s.hi.c] 34)).heap.size := by simp
  generalize w.alloc (.cells #[.int .i64 s.sq, .int .i64 s.fe, .slice A s.ents.length c, .slice A2 s.tmbs.length c2, .int .i64 s.lo.a, .int .i64 s.lo.b, .int .i64 s.lo.c, .int .i64 s.hi.a, .int .i64 s.hi.b, .int .i64 s.hi.c] 34) = W at *
  generalize hx0 : w.heap.size = x0 at *
  have Hx0 := Lib.hid hx0; clear hx0
  obtain ⟨t0, t1, t2, t3, t4, t5, t6, t7, t8, t9⟩ := CA.out.ten
  refine (HCS.out W).mono ?_
  rintro e w1 ⟨rfl, hb1⟩
  have CA1 := Lib.hid (CA.out.below hb1 s0)
  have b1 : Below x0 w w1 := b0.trans (hb1.mono (Nat.le_of_lt s0))
  have s1 : x0 < w1.heap.size := Nat.lt_of_lt_of_le s0 hb1.size
  clear CA b0 s0 hb1 t0 t1 t2 t3 t4 t5 t6 t7 t8 t9
  obtain ⟨t0, t1, t2, t3, t4, t5, t6, t7, t8, t9⟩ := CA1.out.ten
  go_wp2_with fail
  clear t0 t1 t2 t3 t4 t5 t6 t7 t8 t9
  have M2 := Lib.hid (TxtSet.made w1)
  have b2 : Below x0 w (w1.alloc (.map #[] 0)) := b1.alloc (Nat.le_of_lt s1) _
  have CA2 := Lib.hid (CA1.out.below (bal (Below.refl _ w1) (.map #[] 0)) s1)
  have hm : w1.heap.size < (w1.alloc (.map #[] 0)).heap.size := by simp
  generalize w1.alloc (.map #[] 0) = W2 at *
  obtain ⟨m, hm0⟩ : ∃ m, m = w1.heap.size := ⟨_, rfl⟩
  rw [← hm0] at M2 hm s1 ⊢
  clear hm0 CA1 b1 hmk
  go_loopw [14] (fun i wr => ∃ k : Nat, k ≤ s.ents.length ∧ i = .int .i64 k ∧ Hid (TxtSet wr m (keysR s.ents s.tmbs k 0)) ∧ Hid (Cells wr x0 0 [.int .i64 s.sq, .int .i64 s.fe, .slice A s.ents.length c, .slice A2 s.tmbs.length c2, .int .i64 s.lo.a, .int .i64 s.lo.b, .int .i64 s.lo.c, .int .i64 s.hi.a, .int .i64 s.hi.b, .int .i64 s.hi.c]) ∧ Hid (m < wr.heap.size) ∧ Below x0 w wr) (fun i _ => s.ents.length - (intOf i).toNat)
  case atStart => exact ⟨0, by omega, rfl, Lib.hid (by simpa [keysR] using M2.out), CA2, Lib.hid hm, b2⟩
  case round =>
    clear CA2 b2 hm M2
    obtain ⟨k, hk, rfl, HM, CA, HS, hb⟩ := hrel
    by_cases hlt : k < s.ents.length
    · obtain ⟨b1, o1, rfl, hb1, p0, p1, p2, p3⟩ := EntsAt.one (Sl.below H.out.1 hb (by have := Hx0.out; omega)) hlt
      have hfit := (Hf.out _ (List.getElem_mem hlt)).2.2.2
      have Hfit := Lib.hid hfit; clear hfit
      have bA : Below x0 w (wr.alloc (.cells #[.int .i64 s.ents[k].tier, .int .i64 s.ents[k].beg, .int .i64 s.ents[k].fin, .string s.ents[k].key] 103)) := hb.alloc (by have := HS.out; omega) _
      have CAA := Lib.hid (CA.out.below (bal (Below.refl _ wr) (.cells #[.int .i64 s.ents[k].tier, .int .i64 s.ents[k].beg, .int .i64 s.ents[k].fin, .string s.ents[k].key] 103)) (by have := HS.out; omega))
      have MA := HM.out.below (bal (Below.refl _ wr) (.cells #[.int .i64 s.ents[k].tier, .int .i64 s.ents[k].beg, .int .i64 s.ents[k].fin, .string s.ents[k].key] 103))
      have hsA : m < (wr.alloc (.cells #[.int .i64 s.ents[k].tier, .int .i64 s.ents[k].beg, .int .i64 s.ents[k].fin, .string s.ents[k].key] 103)).heap.size := by have := HS.out; simp; omega
      obtain ⟨D, hown, hat, hh, hz1, hz2⟩ := MA
      have Hown := Lib.hid hown; have Hat := Lib.hid hat; have Hh := Lib.hid hh; have Hz1 := Lib.hid hz1; have Hz2 := Lib.hid hz2
      have Hsz := Lib.hid (show (keysR s.ents s.tmbs k 0).length < maxLen by rw [keysR_len _ _ _ _ hk (Nat.zero_le _)]; unfold maxLen; omega)
      have BA := Lib.hid bA; have SA := Lib.hid hsA
      clear hown hat hh hz1 hz2 HM CA HS hb bA hsA
      go_wp2_with (at_mapUpdate; refine wpList_mapUpdate_own _ rfl _ _ _ 71 rfl 9 4 txtKeyed Tryz.underlying71 _ m _ D rfl (by exact Hown.out) Hsz.out _ _ _ rfl rfl (WideMaps.keyOf_string_mk Tryz.underlying9 (by simpa using Hfit.out)) _ [] (plainElem_bool Tryz.underlying4 true) ?_; intro w3 hown3 hg3)
      have hg3' : World.grownBy (wr.alloc (.cells #[.int .i64 s.ents[k].tier, .int .i64 s.ents[k].beg, .int .i64 s.ents[k].fin, .string s.ents[k].key] 103)) w3 (some m) := ⟨hg3.os, hg3.tape, hg3.output, hg3.size, hg3.block⟩
      have HM3 := Lib.hid (show TxtSet w3 m (keysR s.ents s.tmbs (k + 1) 0) by rw [keysR_ent _ _ _ hlt]; exact TxtSet.put rfl Hown.out Hat.out Hh.out Hz1.out Hz2.out hown3)
      have CA3 := Lib.hid (CAA.out.grown hg3' (by have := SA.out; omega) (by omega))
      have HS3 := Lib.hid (Nat.lt_of_lt_of_le SA.out hg3'.size)
      have b3 : Below x0 w w3 := BA.out.trans (below_of_grown hg3' (by have := SA.out; omega) (fun g e => by injection e with e; omega))
      clear hown3 hg3 hg3' CAA Hown Hat Hh Hz1 Hz2 BA SA
      go_wp2
      go_roundw
      case rel => exact ⟨k + 1, by omega, by go_num, HM3, CA3, HS3, b3⟩
      case measure => simp [intOf]; omega
    · obtain rfl : k = s.ents.length := by omega
      obtain ⟨t0, t1, t2, t3, t4, t5, t6, t7, t8, t9⟩ := CA.out.ten
      go_wp2_with fail
      go_loopw [25] (fun i wr => ∃ k : Nat, k ≤ s.tmbs.length ∧ i = .int .i64 k ∧ Hid (TxtSet wr m (keysR s.ents s.tmbs s.ents.length k)) ∧ Hid (m < wr.heap.size) ∧ Below x0 w wr) (fun i _ => s.tmbs.length - (intOf i).toNat)
      case atStart => exact ⟨0, by omega, rfl, HM, HS, hb⟩
      case round =>
        clear CA hb HM HS t0 t1 t2 t3 t4 t5 t6 t7 t8 t9
        obtain ⟨k, hk, rfl, HM, HS, hb⟩ := hrel
        by_cases hlt : k < s.tmbs.length
        · obtain ⟨b1, o1, rfl, hb1, p0, p1⟩ := TmbsAt.one (Sl.below H.out.2 hb (by have := Hx0.out; omega)) hlt
          have hfit := (Hf2.out _ (List.getElem_mem hlt)).2
          have Hfit := Lib.hid hfit; clear hfit
          have bA : Below x0 w (wr.alloc (.cells #[.int .i64 s.tmbs[k].seq, .string s.tmbs[k].key] 108)) := hb.alloc (by have := HS.out; omega) _
          have MA := HM.out.below (bal (Below.refl _ wr) (.cells #[.int .i64 s.tmbs[k].seq, .string s.tmbs[k].key] 108))
          have hsA : m < (wr.alloc (.cells #[.int .i64 s.tmbs[k].seq, .string s.tmbs[k].key] 108)).heap.size := by have := HS.out; simp; omega
          obtain ⟨D, hown, hat, hh, hz1, hz2⟩ := MA
          have Hown := Lib.hid hown; have Hat := Lib.hid hat; have Hh := Lib.hid hh; have Hz1 := Lib.hid hz1; have Hz2 := Lib.hid hz2
          have Hsz := Lib.hid (show (keysR s.ents s.tmbs s.ents.length k).length < maxLen by rw [keysR_len _ _ _ _ (Nat.le_refl _) hk]; unfold maxLen; omega)
          have BA := Lib.hid bA; have SA := Lib.hid hsA
          clear hown hat hh hz1 hz2 HM HS hb bA hsA
          go_wp2_with (at_mapUpdate; refine wpList_mapUpdate_own _ rfl _ _ _ 71 rfl 9 4 txtKeyed Tryz.underlying71 _ m _ D rfl (by exact Hown.out) Hsz.out _ _ _ rfl rfl (WideMaps.keyOf_string_mk Tryz.underlying9 (by simpa using Hfit.out)) _ [] (plainElem_bool Tryz.underlying4 true) ?_; intro w3 hown3 hg3)
          have hg3' : World.grownBy (wr.alloc (.cells #[.int .i64 s.tmbs[k].seq, .string s.tmbs[k].key] 108)) w3 (some m) := ⟨hg3.os, hg3.tape, hg3.output, hg3.size, hg3.block⟩
          have HM3 := Lib.hid (show TxtSet w3 m (keysR s.ents s.tmbs s.ents.length (k + 1)) by rw [keysR_tmb _ _ _ _ hlt]; exact TxtSet.put rfl Hown.out Hat.out Hh.out Hz1.out Hz2.out hown3)
          have HS3 := Lib.hid (Nat.lt_of_lt_of_le SA.out hg3'.size)
          have b3 : Below x0 w w3 := BA.out.trans (below_of_grown hg3' (by have := SA.out; omega) (fun g e => by injection e with e; omega))
          clear hown3 hg3 hg3' Hown Hat Hh Hz1 Hz2 BA SA
          go_wp2
          go_roundw
          case rel => exact ⟨k + 1, by omega, by go_num, HM3, HS3, b3⟩
          case measure => simp [intOf]; omega
        · obtain rfl : k = s.tmbs.length := by omega
          go_wp2
          go_ret
          exact ⟨m, rfl, HM.out, by rw [Hx0.out]; omega, by rw [Hx0.out]; exact hb⟩

end Go.Proofs.YtpfanmcjlfdaiaaGreatDoorR

/- Contracts of the program's firstOf and rolledUp. Conditions: lengths; bounds of what is rolled up. -/
namespace Go.Proofs.YtpfanmcjlfdaiaaGreatDoorR
open Go.ChangeShapes Go.WideShapes Go.ChangeAt Go.RowKit Go.Deep Go.Joins Go.Maps
set_option linter.unusedVariables false
set_option linter.unusedSimpArgs false

theorem firstOf1_any (e : GEnt) (t : Int) (y : Nat) (w : World) (h : w.cell? ⟨y, 0, none⟩ = some (.int .i64 t)) (hy : y < w.heap.size) :
    Calls Tryz.prog 139 #[.agg #[.int .i64 e.tier, .int .i64 e.beg, .int .i64 e.fin, .string e.key], .pointer (some ⟨y, 0, none⟩)] w fun r w' => r = .returned (.bool (e.tier == t)) ∧ Below w.heap.size w w' := by
  have h2 : (w.alloc (.cells #[.int .i64 e.tier, .int .i64 e.beg, .int .i64 e.fin, .string e.key] 103)).cell? ⟨y, 0, none⟩ = some (.int .i64 t) := (Below.cell (bal (Below.refl w.heap.size w) _) (p := ⟨y, 0, none⟩) hy).trans h
  have b0 : Below w.heap.size w (w.alloc (.cells #[.int .i64 e.tier, .int .i64 e.beg, .int .i64 e.fin, .string e.key] 103)) := bal (Below.refl _ _) _
  go_enter Tryz.func139, Tryz.ntmps139
  go_wp2
  go_ret
  exact ⟨rfl, b0⟩

set_option maxRecDepth 100000 in
set_option maxHeartbeats 1000000 in
theorem firstThatE_any (A : Option Addr) (c : Nat) (es : List GEnt) (t : Int) (y B : Nat) (w : World) (h : EntsAt w B A es) (hB : B ≤ w.heap.size) (hl : es.length ≤ 1048576) (ht : w.cell? ⟨y, 0, none⟩ = some (.int .i64 t)) (hy : y < w.heap.size) :
    Calls Tryz.prog 138 #[.slice A es.length c, .func (.func 139) #[] #[.pointer (some ⟨y, 0, none⟩)]] w fun r w' => r = .returned (.tuple #[.agg #[.int .i64 ((firstE es t).getD zEnt).tier, .int .i64 ((firstE es t).getD zEnt).beg, .int .i64 ((firstE es t).getD zEnt).fin, .string ((firstE es t).getD zEnt).key], .bool (firstE es t).isSome]) ∧ Below w.heap.size w w' := by
  have H := Lib.hid h; clear h
  have HY : Hid (∀ w', Below w.heap.size w w' → w'.cell? ⟨y, 0, none⟩ = some (.int .i64 t) ∧ y < w'.heap.size) := Lib.hid fun w' hb => ⟨(hb.cell (p := ⟨y, 0, none⟩) hy).trans ht, Nat.lt_of_lt_of_le hy hb.size⟩
  clear ht hy
  go_enter Tryz.func138, Tryz.ntmps138
  go_wp2_with fail
  have CA : Hid (Cells (w.alloc (.cells #[.int .i64 0, .int .i64 0, .int .i64 0, .string ⟨#[]⟩] 103)) w.heap.size 0 [.int .i64 0, .int .i64 0, .int .i64 0, .string ⟨#[]⟩]) := Lib.hid (Cells.new w _ _)
  have FA : Hid (Free (w.alloc (.cells #[.int .i64 0, .int .i64 0, .int .i64 0, .string ⟨#[]⟩] 103)) (some ⟨w.heap.size, 0, none⟩)) := Lib.hid (free_alloc w _ _ 0)
  have b0 : Below w.heap.size w (w.alloc (.cells #[.int .i64 0, .int .i64 0, .int .i64 0, .string ⟨#[]⟩] 103)) := bal (Below.refl _ _) _
  have s0 : w.heap.size < (w.alloc (.cells #[.int .i64 0, .int .i64 0, .int .i64 0, .string ⟨#[]⟩] 103)).heap.size := by simp
  generalize w.alloc (.cells #[.int .i64 0, .int .i64 0, .int .i64 0, .string ⟨#[]⟩] 103) = W at *
  generalize hx0 : w.heap.size = x0 at *
  have Hx0 := Lib.hid hx0; clear hx0
  go_loopw [11] (fun i wr => ∃ k : Nat, k ≤ es.length ∧ i = .int .i64 k ∧ Hid (NoT es t k) ∧ Hid (Cells wr x0 0 [.int .i64 0, .int .i64 0, .int .i64 0, .string ⟨#[]⟩]) ∧ Hid (Free wr (some ⟨x0, 0, none⟩)) ∧ Hid (x0 < wr.heap.size) ∧ Below x0 w wr) (fun i _ => es.length - (intOf i).toNat)
  case atStart => exact ⟨0, by omega, rfl, Lib.hid (NoT.zero _ _), CA, FA, Lib.hid s0, b0⟩
  case round =>
    clear CA FA s0 b0
    obtain ⟨k, hk, rfl, HN, CW, FW, HX, hb⟩ := hrel
    by_cases hlt : k < es.length
    · obtain ⟨b1, o1, rfl, hb1, p0, p1, p2, p3⟩ := EntsAt.one (Sl.below H.out hb (by have := Hx0.out; omega)) hlt
      have i1 : (0 : Int) ≤ (k : Int) := by omega
      have i2 : (k : Int) < (es.length : Int) := by omega
      have HV1 := Lib.hid (fun h1 => firstE_at HN.out hlt h1)
      have HN1 := Lib.hid (fun (h1 : (es[k].tier == t) = false) => HN.out.succ (fun _ => h1))
      generalize es[k] = e at *
      go_wp2_with fail
      have q := Cells.new wr [.int .i64 e.tier, .int .i64 e.beg, .int .i64 e.fin, .string e.key] 103
      have bA : Below x0 w (wr.alloc (.cells #[.int .i64 e.tier, .int .i64 e.beg, .int .i64 e.fin, .string e.key] 103)) := hb.alloc (Nat.le_of_lt HX.out) _
      have bN : Below wr.heap.size wr (wr.alloc (.cells #[.int .i64 e.tier, .int .i64 e.beg, .int .i64 e.fin, .string e.key] 103)) := bal (Below.refl _ _) _
      have CWA := Lib.hid (CW.out.below bN HX.out)
      have FWA := Lib.hid (FW.out.below bN (fun b e => by have := HX.out; simp [blk] at e; omega))
      have hxz : x0 < wr.heap.size := HX.out
      have sA : wr.heap.size < (wr.alloc (.cells #[.int .i64 e.tier, .int .i64 e.beg, .int .i64 e.fin, .string e.key] 103)).heap.size := by simp
      generalize wr.alloc (.cells #[.int .i64 e.tier, .int .i64 e.beg, .int .i64 e.fin, .string e.key] 103) = WA at *
      obtain ⟨z, hz0⟩ : ∃ z, z = wr.heap.size := ⟨_, rfl⟩
      rw [← hz0] at q sA hxz ⊢
      clear p0 p1 p2 p3 CW FW HX hb bN hb1 hz0 HN i1 i2
      refine (firstOf1_any e t y WA (HY.out _ bA).1 (HY.out _ bA).2).mono ?_
      rintro r w3 ⟨rfl, hb3⟩
      have b3 : Below x0 w w3 := bA.trans (hb3.mono (by omega))
      have C3 := Lib.hid (CWA.out.below hb3 (by omega))
      have F3 := Lib.hid (FWA.out.below hb3 (fun b e => by simp [blk] at e; omega))
      have s3 : x0 < w3.heap.size := by have := hb3.size; omega
      obtain ⟨q0, q1, q2, q3⟩ : w3.cell? ⟨z, 0, none⟩ = some (.int .i64 e.tier) ∧ w3.cell? ⟨z, 1, none⟩ = some (.int .i64 e.beg) ∧ w3.cell? ⟨z, 2, none⟩ = some (.int .i64 e.fin) ∧ w3.cell? ⟨z, 3, none⟩ = some (.string e.key) := by
        have k := q.below hb3 sA
        exact ⟨k 0 _ rfl, k 1 _ rfl, k 2 _ rfl, k 3 _ rfl⟩
      clear q hb3 CWA FWA bA sA
      cases ht : (e.tier == t)
      · have N1 := HN1.out ht
        have HN2 := Lib.hid N1; clear N1 ht HV1 HN1
        go_wp2_with fail
        go_roundw
        case rel => exact ⟨k + 1, by omega, by simp, HN2, C3, F3, Lib.hid s3, b3⟩
        case measure => simp [intOf]; omega
      · have E := HV1.out ht
        clear HV1 HN1
        obtain ⟨z0, z1, z2, z3⟩ : w3.cell? ⟨x0, 0, none⟩ = some (.int .i64 0) ∧ w3.cell? ⟨x0, 1, none⟩ = some (.int .i64 0) ∧ w3.cell? ⟨x0, 2, none⟩ = some (.int .i64 0) ∧ w3.cell? ⟨x0, 3, none⟩ = some (.string ⟨#[]⟩) := ⟨C3.out 0 _ rfl, C3.out 1 _ rfl, C3.out 2 _ rfl, C3.out 3 _ rfl⟩
        have f0 : ∀ i, w3.frozen? ⟨x0, i, none⟩ = false := F3.out x0 rfl
        have BF : Hid (∀ a b c d, Below w.heap.size w ((((w3.setCell ⟨x0, 0, none⟩ a).setCell ⟨x0, 1, none⟩ b).setCell ⟨x0, 2, none⟩ c).setCell ⟨x0, 3, none⟩ d)) := Lib.hid fun a b c d => by rw [Hx0.out]; exact (((b3.setCell (Nat.le_refl _) a).setCell (Nat.le_refl _) b).setCell (Nat.le_refl _) c).setCell (Nat.le_refl _) d
        go_wp2
        refine bodyPost_ret (v := .tuple #[.agg #[.int .i64 e.tier, .int .i64 e.beg, .int .i64 e.fin, .string e.key], .bool true]) (by simp [results, Tryz.results138, go_sem, *]) rfl ⟨by rw [E]; rfl, BF.out _ _ _ _⟩
    · have E := firstE_no HN.out (by omega)
      obtain ⟨z0, z1, z2, z3⟩ : wr.cell? ⟨x0, 0, none⟩ = some (.int .i64 0) ∧ wr.cell? ⟨x0, 1, none⟩ = some (.int .i64 0) ∧ wr.cell? ⟨x0, 2, none⟩ = some (.int .i64 0) ∧ wr.cell? ⟨x0, 3, none⟩ = some (.string ⟨#[]⟩) := ⟨CW.out 0 _ rfl, CW.out 1 _ rfl, CW.out 2 _ rfl, CW.out 3 _ rfl⟩
      have f0 : ∀ i, wr.frozen? ⟨x0, i, none⟩ = false := FW.out x0 rfl
      have hx := HX.out
      have BF : Hid (∀ a b c d o, Below w.heap.size w (((((wr.setCell ⟨x0, 0, none⟩ a).setCell ⟨x0, 1, none⟩ b).setCell ⟨x0, 2, none⟩ c).setCell ⟨x0, 3, none⟩ d).alloc o)) := Lib.hid fun a b c d o => by rw [Hx0.out]; exact ((((hb.setCell (Nat.le_refl _) a).setCell (Nat.le_refl _) b).setCell (Nat.le_refl _) c).setCell (Nat.le_refl _) d).alloc (by simp only [size_setCell]; omega) _
      go_wp2
      refine bodyPost_ret (v := .tuple #[.agg #[.int .i64 0, .int .i64 0, .int .i64 0, .string ⟨#[]⟩], .bool false]) (by simp [results, Tryz.results138, go_sem, *]) rfl ⟨by rw [E]; rfl, BF.out _ _ _ _ _⟩

set_option maxRecDepth 100000 in
set_option maxHeartbeats 1000000 in
theorem firstOf_any (A : Option Addr) (c : Nat) (A2 : Option Addr) (c2 : Nat) (s : GSt) (t : Int) (B : Nat) (w : World) (h : StAt w B A A2 s) (hB : B ≤ w.heap.size) (hl : s.ents.length ≤ 1048576) :
    Calls Tryz.prog 120 #[.agg #[.int .i64 s.sq, .int .i64 s.fe, .slice A s.ents.length c, .slice A2 s.tmbs.length c2, .int .i64 s.lo.a, .int .i64 s.lo.b, .int .i64 s.lo.c, .int .i64 s.hi.a, .int .i64 s.hi.b, .int .i64 s.hi.c], .int .i64 t] w fun r w' => r = .returned (.tuple #[.agg #[.int .i64 ((firstE s.ents t).getD zEnt).tier, .int .i64 ((firstE s.ents t).getD zEnt).beg, .int .i64 ((firstE s.ents t).getD zEnt).fin, .string ((firstE s.ents t).getD zEnt).key], .bool (firstE s.ents t).isSome]) ∧ Below w.heap.size w w' := by
  have H := Lib.hid h; clear h
  go_enter Tryz.func120, Tryz.ntmps120
  go_wp2_with fail
  obtain ⟨V, hV⟩ : ∃ V, V = (((w.alloc (.cells #[.int .i64 s.sq, .int .i64 s.fe, .slice A s.ents.length c, .slice A2 s.tmbs.length c2, .int .i64 s.lo.a, .int .i64 s.lo.b, .int .i64 s.lo.c, .int .i64 s.hi.a, .int .i64 s.hi.b, .int .i64 s.hi.c] 34)).alloc (.cells #[.int .i64 t] 3)).alloc (.cells #[.int .i64 0, .int .i64 0, .int .i64 0, .string ⟨#[]⟩] 103)) := ⟨_, rfl⟩
  have bV : Below w.heap.size w V := by rw [hV]; exact bal (bal (bal (Below.refl _ _) _) _) _
  have hT : V.cell? ⟨w.heap.size + 1, 0, none⟩ = some (.int .i64 t) := by
    rw [hV]
    have k := ((Cells.new (w.alloc (.cells #[.int .i64 s.sq, .int .i64 s.fe, .slice A s.ents.length c, .slice A2 s.tmbs.length c2, .int .i64 s.lo.a, .int .i64 s.lo.b, .int .i64 s.lo.c, .int .i64 s.hi.a, .int .i64 s.hi.b, .int .i64 s.hi.c] 34)) [.int .i64 t] 3).below (bal (Below.refl _ _) (.cells #[.int .i64 0, .int .i64 0, .int .i64 0, .string ⟨#[]⟩] 103)) (by simp)) 0 _ rfl
    simpa using k
  have hC : Cells V (w.heap.size + 1 + 1) 0 [.int .i64 0, .int .i64 0, .int .i64 0, .string ⟨#[]⟩] := by
    rw [hV]
    have k := Cells.new ((w.alloc (.cells #[.int .i64 s.sq, .int .i64 s.fe, .slice A s.ents.length c, .slice A2 s.tmbs.length c2, .int .i64 s.lo.a, .int .i64 s.lo.b, .int .i64 s.lo.c, .int .i64 s.hi.a, .int .i64 s.hi.b, .int .i64 s.hi.c] 34)).alloc (.cells #[.int .i64 t] 3)) [.int .i64 0, .int .i64 0, .int .i64 0, .string ⟨#[]⟩] 103
    simpa using k
  have hF : Free V (some ⟨w.heap.size + 1 + 1, 0, none⟩) := by
    rw [hV]
    have k := free_alloc ((w.alloc (.cells #[.int .i64 s.sq, .int .i64 s.fe, .slice A s.ents.length c, .slice A2 s.tmbs.length c2, .int .i64 s.lo.a, .int .i64 s.lo.b, .int .i64 s.lo.c, .int .i64 s.hi.a, .int .i64 s.hi.b, .int .i64 s.hi.c] 34)).alloc (.cells #[.int .i64 t] 3)) #[.int .i64 0, .int .i64 0, .int .i64 0, .string ⟨#[]⟩] 103 0
    simpa using k
  have sV : w.heap.size + 1 + 1 < V.heap.size := by rw [hV]; simp
  rw [← hV]
  clear hV
  refine (firstThatE_any A c s.ents t (w.heap.size + 1) B V (Sl.below H.out.1 bV hB) (by omega) hl hT (by omega)).mono ?_
  rintro r w3 ⟨rfl, hb3⟩
  have b3 : Below w.heap.size w w3 := bV.trans (hb3.mono (by omega))
  have C3 := hC.below hb3 sV
  have F3 : ∀ i, w3.frozen? ⟨w.heap.size + 1 + 1, i, none⟩ = false := (hF.below hb3 (fun b e => by simp [blk] at e; omega)) _ rfl
  generalize hfb : (firstE s.ents t).isSome = fb
  generalize hfe : (firstE s.ents t).getD zEnt = fe
  have Hfb := Lib.hid hfb; have Hfe := Lib.hid hfe; clear hfb hfe
  obtain ⟨z0, z1, z2, z3⟩ : w3.cell? ⟨w.heap.size + 1 + 1, 0, none⟩ = some (.int .i64 0) ∧ w3.cell? ⟨w.heap.size + 1 + 1, 1, none⟩ = some (.int .i64 0) ∧ w3.cell? ⟨w.heap.size + 1 + 1, 2, none⟩ = some (.int .i64 0) ∧ w3.cell? ⟨w.heap.size + 1 + 1, 3, none⟩ = some (.string ⟨#[]⟩) := ⟨C3 0 _ rfl, C3 1 _ rfl, C3 2 _ rfl, C3 3 _ rfl⟩
  have BF : Hid (∀ a b c d, Below w.heap.size w ((((w3.setCell ⟨w.heap.size + 1 + 1, 0, none⟩ a).setCell ⟨w.heap.size + 1 + 1, 1, none⟩ b).setCell ⟨w.heap.size + 1 + 1, 2, none⟩ c).setCell ⟨w.heap.size + 1 + 1, 3, none⟩ d)) := Lib.hid fun a b c d => (((b3.setCell (by show w.heap.size ≤ w.heap.size + 1 + 1; omega) a).setCell (by show w.heap.size ≤ w.heap.size + 1 + 1; omega) b).setCell (by show w.heap.size ≤ w.heap.size + 1 + 1; omega) c).setCell (by show w.heap.size ≤ w.heap.size + 1 + 1; omega) d
  clear C3 hC hF hT bV sV hb3 b3 H
  go_wp2
  refine bodyPost_ret (v := .tuple #[.agg #[.int .i64 fe.tier, .int .i64 fe.beg, .int .i64 fe.fin, .string fe.key], .bool fb]) (by simp [results, Tryz.results120, go_sem, *]) rfl ⟨by rw [Hfb.out, Hfe.out], BF.out _ _ _ _⟩

set_option maxRecDepth 100000 in
theorem rolledUp_0 (A : Option Addr) (c : Nat) (A2 : Option Addr) (c2 : Nat) (s : GSt) (b f : Int) (ky : ByteArray) (w : World) :
    Calls Tryz.prog 121 #[.agg #[.int .i64 s.sq, .int .i64 s.fe, .slice A s.ents.length c, .slice A2 s.tmbs.length c2, .int .i64 s.lo.a, .int .i64 s.lo.b, .int .i64 s.lo.c, .int .i64 s.hi.a, .int .i64 s.hi.b, .int .i64 s.hi.c], .agg #[.int .i64 0, .int .i64 b, .int .i64 f, .string ky]] w fun r w' => r = .returned (.bool (upB s 0 ⟨0, b, f, ky⟩)) ∧ Below w.heap.size w w' := by
  have E : upB s 0 ⟨0, b, f, ky⟩ = decide (f ≤ s.hi.b) := by simp [upB, GTri.at]
  rw [E]
  clear E
  go_enter Tryz.func121, Tryz.ntmps121
  go_wp2_with fail
  have bV : Below w.heap.size w ((w.alloc (.cells #[.int .i64 s.sq, .int .i64 s.fe, .slice A s.ents.length c, .slice A2 s.tmbs.length c2, .int .i64 s.lo.a, .int .i64 s.lo.b, .int .i64 s.lo.c, .int .i64 s.hi.a, .int .i64 s.hi.b, .int .i64 s.hi.c] 34)).alloc (.cells #[.int .i64 0, .int .i64 b, .int .i64 f, .string ky] 103)) := bal (bal (Below.refl _ _) _) _
  go_quiet (fail)
  go_wp2
  go_ret
  exact ⟨rfl, bdrewB bV _⟩

set_option maxRecDepth 100000 in
theorem rolledUp_1 (A : Option Addr) (c : Nat) (A2 : Option Addr) (c2 : Nat) (s : GSt) (b f : Int) (ky : ByteArray) (w : World) :
    Calls Tryz.prog 121 #[.agg #[.int .i64 s.sq, .int .i64 s.fe, .slice A s.ents.length c, .slice A2 s.tmbs.length c2, .int .i64 s.lo.a, .int .i64 s.lo.b, .int .i64 s.lo.c, .int .i64 s.hi.a, .int .i64 s.hi.b, .int .i64 s.hi.c], .agg #[.int .i64 1, .int .i64 b, .int .i64 f, .string ky]] w fun r w' => r = .returned (.bool (upB s 1 ⟨1, b, f, ky⟩)) ∧ Below w.heap.size w w' := by
  have E : upB s 1 ⟨1, b, f, ky⟩ = decide (f ≤ s.hi.c) := by simp [upB, GTri.at]
  rw [E]
  clear E
  go_enter Tryz.func121, Tryz.ntmps121
  go_wp2_with fail
  have bV : Below w.heap.size w ((w.alloc (.cells #[.int .i64 s.sq, .int .i64 s.fe, .slice A s.ents.length c, .slice A2 s.tmbs.length c2, .int .i64 s.lo.a, .int .i64 s.lo.b, .int .i64 s.lo.c, .int .i64 s.hi.a, .int .i64 s.hi.b, .int .i64 s.hi.c] 34)).alloc (.cells #[.int .i64 1, .int .i64 b, .int .i64 f, .string ky] 103)) := bal (bal (Below.refl _ _) _) _
  go_quiet (fail)
  go_wp2
  go_ret
  exact ⟨rfl, bdrewB bV _⟩

set_option maxRecDepth 100000 in
theorem rolledUp_2 (A : Option Addr) (c : Nat) (A2 : Option Addr) (c2 : Nat) (s : GSt) (b f : Int) (ky : ByteArray) (w : World) :
    Calls Tryz.prog 121 #[.agg #[.int .i64 s.sq, .int .i64 s.fe, .slice A s.ents.length c, .slice A2 s.tmbs.length c2, .int .i64 s.lo.a, .int .i64 s.lo.b, .int .i64 s.lo.c, .int .i64 s.hi.a, .int .i64 s.hi.b, .int .i64 s.hi.c], .agg #[.int .i64 2, .int .i64 b, .int .i64 f, .string ky]] w fun r w' => r = .returned (.bool (upB s 2 ⟨2, b, f, ky⟩)) ∧ Below w.heap.size w w' := by
  have E : upB s 2 ⟨2, b, f, ky⟩ = true := by simp [upB, GTri.at]
  rw [E]
  clear E
  go_enter Tryz.func121, Tryz.ntmps121
  go_wp2_with fail
  have bV : Below w.heap.size w ((w.alloc (.cells #[.int .i64 s.sq, .int .i64 s.fe, .slice A s.ents.length c, .slice A2 s.tmbs.length c2, .int .i64 s.lo.a, .int .i64 s.lo.b, .int .i64 s.lo.c, .int .i64 s.hi.a, .int .i64 s.hi.b, .int .i64 s.hi.c] 34)).alloc (.cells #[.int .i64 2, .int .i64 b, .int .i64 f, .string ky] 103)) := bal (bal (Below.refl _ _) _) _
  go_quiet (fail)
  go_wp2
  go_ret
  exact ⟨rfl, bdrewB bV _⟩

end Go.Proofs.YtpfanmcjlfdaiaaGreatDoorR
