/-
  What a right state is; a set of texts kept as a Go map from texts to bools that the call made: what it holds, how many. No Go text is walked here.
-/
import Derived.Test.YthmpmagajbmpaaaDoorStt
import Derived.Test.YthmpmagajbmpaaaDoorRecI
import Derived.Test.YthmpmagajbmpaaaDoorCutUp
import Derived.Maps.Own
import Derived.Maps.OwnOps
import Derived.Maps.OwnSet
namespace Go.Proofs.YthmpmagajbmpaaaDoor
open Go.ChangeShapes Go.WideShapes Go.ChangeAt Go.RowKit Go.Deep Go.Joins Go.Maps
set_option linter.unusedVariables false
set_option linter.unusedSimpArgs false

theorem Cells.grown {w w' : World} {b o g : Nat} {vs : List Value} (h : Cells w b o vs) (hg : w.grownBy w' (some g)) (hb : b < w.heap.size) (hne : b ≠ g) : Cells w' b o vs := fun j v hv =>
  (World.cell?_of_block (a := ⟨b, o + j, none⟩) (hg.block b hb (fun e => hne (by injection e)))).trans (h j v hv)

/-- where each tier's entries end, in order -/
def endsOf (lo : GTri) (es : List GEnt) : GTri := es.foldl (fun a e => a.set e.tier e.fin) lo

theorem endsOf_succ (lo : GTri) (es : List GEnt) (k : Nat) (h : k < es.length) : endsOf lo (es.take (k + 1)) = (endsOf lo (es.take k)).set es[k].tier es[k].fin := by
  unfold endsOf
  rw [List.take_succ_eq_append_getElem h, List.foldl_append]
  rfl

/-- the k-th entry is right, and goes on where its tier ended -/
def OneP (lo : GTri) (es : List GEnt) (k : Nat) : Prop := ∀ h : k < es.length, EntP es[k] ∧ es[k].beg = (endsOf lo (es.take k)).at es[k].tier

def SideP (lo : GTri) (es : List GEnt) (n : Nat) : Prop := ∀ k, k < n → OneP lo es k

theorem SideP.succ {lo : GTri} {es : List GEnt} {n : Nat} (h : SideP lo es n) (hn : n < es.length) (h1 : EntP es[n]) (h2 : es[n].beg = (endsOf lo (es.take n)).at es[n].tier) : SideP lo es (n + 1) := fun k hk => by
  by_cases e : k = n
  · subst e; exact fun _ => ⟨h1, h2⟩
  · exact h k (by omega)

def LowP (lo : GTri) : Prop := ∀ i, i < 3 → 0 ≤ lo.at (i : Nat) ∧ lo.at (i : Nat) ≤ 100000

def TmbP (sq : Int) (t : GTmb) : Prop := (1 ≤ t.seq ∧ t.seq ≤ sq) ∧ AnyKey t.key

def RestP (sq : Int) (ts : List GTmb) (n : Nat) : Prop := ∀ k, k < n → ∀ h : k < ts.length, TmbP sq ts[k]

theorem RestP.succ {sq : Int} {ts : List GTmb} {n : Nat} (h : RestP sq ts n) (hn : n < ts.length) (h1 : TmbP sq ts[n]) : RestP sq ts (n + 1) := fun k hk => by
  by_cases e : k = n
  · subst e; exact fun _ => h1
  · exact h k (by omega)

/-- all keys, those of entries first, the last one ahead -/
def keysR (es : List GEnt) (ts : List GTmb) (i j : Nat) : List ByteArray := ((ts.take j).map (·.key)).reverse ++ ((es.take i).map (·.key)).reverse

theorem keysR_ent (es : List GEnt) (ts : List GTmb) (i : Nat) (h : i < es.length) : keysR es ts (i + 1) 0 = es[i].key :: keysR es ts i 0 := by
  unfold keysR
  rw [List.take_succ_eq_append_getElem h, List.map_append, List.reverse_append]
  rfl

theorem keysR_tmb (es : List GEnt) (ts : List GTmb) (i j : Nat) (h : j < ts.length) : keysR es ts i (j + 1) = ts[j].key :: keysR es ts i j := by
  unfold keysR
  rw [List.take_succ_eq_append_getElem h, List.map_append, List.reverse_append]
  rfl

theorem keysR_len (es : List GEnt) (ts : List GTmb) (i j : Nat) (hi : i ≤ es.length) (hj : j ≤ ts.length) : (keysR es ts i j).length = i + j := by
  simp [keysR]; omega

def keysN (s : GSt) : Prop := (keysR s.ents s.tmbs s.ents.length s.tmbs.length).Nodup

def SidesP (s : GSt) : Prop := LowP s.lo ∧ SideP s.lo s.ents s.ents.length ∧ endsOf s.lo s.ents = s.hi

/-- a right state -/
def StP (s : GSt) : Prop := inB s.sq 0 999999 = true ∧ inB s.fe 0 999999 = true ∧ s.ents.length + s.tmbs.length ≤ 4096 ∧ SidesP s ∧ RestP s.sq s.tmbs s.tmbs.length ∧ keysN s

theorem txtKeyed : Go.Maps.Keyed Tryd.prog 9 := string_keyed Tryd.underlying9

theorem zeroBoolK (w : World) : (zeroValue 4).run Tryd.prog w = .ok (.bool false) w := by kernel_rfl

def klt (s : ByteArray) : Lit := .string s.data.toList

theorem klt_inj {a b : ByteArray} (h : klt a = klt b) : a = b := by
  unfold klt at h
  injection h with h
  exact ba_eq h

def memB (k : ByteArray) (ks : List ByteArray) : Bool := ks.any fun x => decide (x = k)

theorem memB_iff {k : ByteArray} {ks : List ByteArray} : memB k ks = true ↔ k ∈ ks := by simp [memB]

theorem memB_cons (u k : ByteArray) (ks : List ByteArray) : memB u (k :: ks) = (decide (k = u) || memB u ks) := by simp [memB]

/-- block b is a map from texts to bools that says true just of the texts ks; it has as many entries as they are many, if no two are alike, else fewer -/
def TxtSet (w : World) (b : Nat) (ks : List ByteArray) : Prop :=
  ∃ D : DataW Unit, w.ownsMap Tryd.prog 9 (plainElem Tryd.prog 4) b ks.length D ∧ (∀ k, D.atKey (klt k) (.lit (.bool false)) = .lit (.bool (memB k ks))) ∧ (∀ k, Maps.has D (klt k) = memB k ks) ∧ Maps.size D ≤ ks.length ∧ (Maps.size D = ks.length ↔ ks.Nodup)

theorem run_makeTxtSet (n : Int) (w : World) : (Instr.makeMap 82 (some (.int .i64 n))).run Tryd.prog w = .ok (.map (some w.heap.size)) (w.alloc (.map #[] 0)) := by
  simp [Instr.makeMap, run_underlying Tryd.underlying82]; rfl

theorem TxtSet.made (w : World) : TxtSet (w.alloc (.map #[] 0)) w.heap.size [] := ⟨_, World.ownsMap_made _ _ _ _, fun v => rfl, fun v => rfl, Nat.le_refl _, by simp [Maps.size]⟩

theorem TxtSet.lt {w : World} {b : Nat} {ks : List ByteArray} (h : TxtSet w b ks) : b < w.heap.size := by obtain ⟨D, hown, _⟩ := h; exact hown.lt

theorem TxtSet.grown {w w' : World} {b : Nat} {ks : List ByteArray} (h : TxtSet w b ks) {row : Option Nat} (hg : w.grownBy w' row) (hr : some b ≠ row) : TxtSet w' b ks := by
  obtain ⟨D, hown, hat⟩ := h
  exact ⟨D, hown.kept hg hr, hat⟩

theorem TxtSet.below {w w' : World} {b : Nat} {ks : List ByteArray} (h : TxtSet w b ks) (hb : Below w.heap.size w w') : TxtSet w' b ks := h.grown (grown_of_below hb none) (by simp)

theorem TxtSet.len {w : World} {b : Nat} {ks : List ByteArray} (h : TxtSet w b ks) : ∃ n : Nat, n ≤ ks.length ∧ (n = ks.length ↔ ks.Nodup) ∧ ∀ ty, (Builtin.len_ #[82] ty #[.map (some b)]).run Tryd.prog w = .ok (.int .i64 n) w := by
  obtain ⟨D, hown, _, _, h1, h2⟩ := h
  exact ⟨Maps.size D, h1, h2, fun ty => hown.len Tryd.underlying82 ty⟩

theorem TxtSet.put {w w' : World} {b : Nat} {ks : List ByteArray} {D : DataW Unit} {k : ByteArray} {n : Nat} (hn : n = ks.length + 1) (hD : w.ownsMap Tryd.prog 9 (plainElem Tryd.prog 4) b ks.length D) (hat : ∀ k, D.atKey (klt k) (.lit (.bool false)) = .lit (.bool (memB k ks))) (hh : ∀ k, Maps.has D (klt k) = memB k ks) (h1 : Maps.size D ≤ ks.length) (h2 : Maps.size D = ks.length ↔ ks.Nodup)
    (h : w'.ownsMap Tryd.prog 9 (plainElem Tryd.prog 4) b n (D.put (klt k) (.lit (.bool true)))) : TxtSet w' b (k :: ks) := by
  have hsz := Maps.size_put (k := klt k) (hD.tidy txtKeyed) (.lit (.bool true))
  refine ⟨_, by subst hn; exact h, fun u => ?_, fun u => ?_, ?_, ?_⟩
  · by_cases e : u = k
    · subst e
      rw [atKey_put_same hD.isMap (by trivial)]
      simp [memB_cons]
    · rw [atKey_put_other (fun h => e (klt_inj h)), hat u]
      simp [memB_cons, Ne.symm e]
  · by_cases e : u = k
    · subst e
      rw [has_put_same hD.isMap (by trivial)]
      simp [memB_cons]
    · rw [has_put_other (fun h => e (klt_inj h)), hh u]
      simp [memB_cons, Ne.symm e]
  · rw [hsz]
    simp only [List.length_cons]
    split <;> omega
  · rw [hsz, hh k]
    simp only [List.length_cons, List.nodup_cons]
    by_cases e : k ∈ ks
    · rw [memB_iff.2 e]; simp [e]; omega
    · rw [show memB k ks = false from Bool.eq_false_iff.2 (fun h => e (memB_iff.1 h))]; simp [e, ← h2]

end Go.Proofs.YthmpmagajbmpaaaDoor
