/- A map from numbers to places, in memory: asked, written, taken from. -/
import Derived.Test.YtebmomanpkmloaaFlat
import Derived.Maps.OwnSet
namespace Go.Proofs.Ytebmomanpkmloaa
open Go.ChangeShapes Go.WideShapes Go.ChangeAt Go.RowKit Go.Maps
set_option linter.unusedVariables false
set_option linter.unusedSimpArgs false

theorem keyedI : Keyed Try.prog 3 := int_keyed Try.underlying3
theorem zeroI (w : World) : (zeroValue 3).run Try.prog w = .ok (.int .i64 0) w := by kernel_rfl
abbrev kI (z : Int) : Lit := .int .i64 z
abbrev dI (z : Int) : DataW Unit := .lit (.int .i64 z)
theorem wfI {z : Int} (h0 : -9223372036854775808 ≤ z) (h1 : z ≤ 9223372036854775807) : (Lit.int .i64 z).wf = true := WalkArith.wf_i64 (by omega)
theorem keyI {z : Int} (h : (Lit.int .i64 z).wf = true) : keyOf Try.prog 3 (.int .i64 z) = some (kI z) := keyOf_int_mk Try.underlying3 h
/-- block mb is a map of k numbers that says where each stands. -/
def PmAt (w : World) (mb : Nat) (f : Int → Option Nat) (k : Nat) : Prop :=
  ∃ D : DataW Unit, w.ownsMap Try.prog 3 (plainElem Try.prog 3) mb k D ∧ Maps.size D = k ∧ (∀ z, Maps.has D (kI z) = (f z).isSome) ∧ ∀ z p, f z = some p → D.atKey (kI z) (dI 0) = dI (p : Int)
def putF (f : Int → Option Nat) (z : Int) (p : Nat) : Int → Option Nat := fun y => if y = z then some p else f y
def delF11 (f : Int → Option Nat) (z : Int) : Int → Option Nat := fun y => if y = z then none else f y
section
variable {w w' : World} {mb k : Nat} {f : Int → Option Nat}
theorem tightM {w : World} {k n b : Nat} {D : DataW Unit} (h : w.ownsMap Try.prog 3 (plainElem Try.prog 3) b n D) (hk : Maps.size D = k) : w.ownsMap Try.prog 3 (plainElem Try.prog 3) b k D := by
  obtain ⟨es, clock, hb, F, hs, rfl⟩ := h
  refine ⟨es, clock, hb, F, ?_, rfl⟩
  simp [Maps.size, length_sorted] at hk
  omega
theorem only_of_turned (h : w.mapTurned w' mb) : Only mb w w' := by
  obtain ⟨es, clock, es', clock', hb, rfl⟩ := h
  exact ⟨rfl, rfl, rfl, by simp [Go.ChangeMaps.setBlock], fun i hi => Go.ChangeMaps.heap_setBlock_other hb _ hi⟩
theorem kI_ne {y z : Int} (h : y ≠ z) : kI y ≠ kI z := fun e => h (by injection e)
theorem kI_key (z : Int) : WideAt.IsKeyLit (kI z) := by simp [WideAt.IsKeyLit]
theorem PmAt.lt (h : PmAt w mb f k) : mb < w.heap.size := by obtain ⟨D, ho, _⟩ := h; exact ho.lt
theorem PmAt.keep (h : PmAt w mb f k) (hb : w'.heap[mb]? = w.heap[mb]?) : PmAt w' mb f k := by
  obtain ⟨D, ⟨es, clock, he, F, hs, hD⟩, h2⟩ := h
  exact ⟨D, ⟨es, clock, hb.trans he, F, hs, hD⟩, h2⟩
theorem PmAt.made (w : World) : PmAt (w.alloc (.map #[] 0)) w.heap.size (fun _ => none) 0 :=
  ⟨.map [], World.ownsMap_made w _ _ _, rfl, fun z => rfl, fun z p e => by cases e⟩
theorem PmAt.put {D : DataW Unit} (ho : w.ownsMap Try.prog 3 (plainElem Try.prog 3) mb k D) (hs : Maps.size D = k) (hh : ∀ z, Maps.has D (kI z) = (f z).isSome) (ha : ∀ z p, f z = some p → D.atKey (kI z) (dI 0) = dI (p : Int)) (z : Int) (p : Nat) (ho' : w'.ownsMap Try.prog 3 (plainElem Try.prog 3) mb (k + 1) (D.put (kI z) (dI (p : Int)))) :
    PmAt w' mb (putF f z p) (if (f z).isSome then k else k + 1) := by
  have ht := ho.tidy keyedI
  have hsz : Maps.size (D.put (kI z) (dI (p : Int))) = if (f z).isSome then k else k + 1 := by rw [size_put ht, hh z, hs]
  refine ⟨_, tightM ho' hsz, hsz, fun y => ?_, fun y q e => ?_⟩
  · unfold putF
    by_cases hy : y = z
    · subst hy; rw [if_pos rfl, has_put_same ho.isMap (kI_key y)]; rfl
    · rw [if_neg hy, has_put_other (kI_ne hy)]; exact hh y
  · unfold putF at e
    by_cases hy : y = z
    · subst hy; rw [if_pos rfl] at e; injection e with e; subst e; rw [atKey_put_same ho.isMap (kI_key y)]
    · rw [if_neg hy] at e; rw [atKey_put_other (kI_ne hy)]; exact ha y q e
theorem PmAt.del {D : DataW Unit} (ho : w.ownsMap Try.prog 3 (plainElem Try.prog 3) mb k D) (hs : Maps.size D = k) (hh : ∀ z, Maps.has D (kI z) = (f z).isSome) (ha : ∀ z p, f z = some p → D.atKey (kI z) (dI 0) = dI (p : Int)) (z : Int) (ho' : w'.ownsMap Try.prog 3 (plainElem Try.prog 3) mb k (D.del (kI z))) (hz : (f z).isSome = true) :
    PmAt w' mb (delF11 f z) (k - 1) := by
  have ht := ho.tidy keyedI
  have hsz : Maps.size (D.del (kI z)) = k - 1 := by have := size_del (k := kI z) ht; rw [hh z, hz, hs] at this; simp at this; omega
  refine ⟨_, tightM ho' hsz, hsz, fun y => ?_, fun y q e => ?_⟩
  · unfold delF11
    by_cases hy : y = z
    · subst hy; rw [if_pos rfl, has_del_same]; rfl
    · rw [if_neg hy, has_del_other (kI_ne hy)]; exact hh y
  · unfold delF11 at e
    by_cases hy : y = z
    · subst hy; rw [if_pos rfl] at e; cases e
    · rw [if_neg hy] at e; rw [atKey_del_other (kI_ne hy)]; exact ha y q e
end
def placeV (f : Int → Option Nat) (z : Int) : Value := .tuple #[.int .i64 (((f z).getD 0 : Nat) : Int), .bool (f z).isSome]
section
variable {ops : Array Oper} {rest : List Oper} {o : Oper} {a : Act} {Q : Exit → Act → World → Prop} {w : World} {mb k : Nat} {f : Int → Option Nat}
/-- 'i, ok := m[z]'. -/
theorem wpList_place (h : PmAt w mb f k) (hg : o.guard = none) (m x : Operand) (hop : o.op = Op.lookup 55 m x true) (z : Int) (hz : (Lit.int .i64 z).wf = true) (hm : a.eval m = .map (some mb)) (hx : a.eval x = .int .i64 z)
    (hK : wpList Try.prog ops Q rest (a.put o.dst (placeV f z)) w) : wpList Try.prog ops Q (o :: rest) a w := by
  obtain ⟨D, ho, hs, hh, ha⟩ := h
  refine wpList_lookup_own_ok_int w hg m x 55 hop 3 3 .i64 keyedI Try.underlying55 Try.underlying3 (zeroI w) mb k D hm ho _ (kI z) hx (keyI hz) fun c hc _ => ?_
  have e : Value.tuple #[.int .i64 c, .bool (Maps.has D (kI z))] = placeV f z := by
    unfold placeV
    rw [hh z]
    cases hf : f z with
    | none =>
      have := atKey_of_not_has (D := D) (k := kI z) (by rw [hh z, hf]; rfl) (dI 0)
      have hc' : D.atKey (kI z) (dI 0) = dI c := hc
      rw [this] at hc'
      injection hc' with hc'
      injection hc' with _ hc'
      rw [← hc']; rfl
    | some p =>
      have := ha z p hf
      have hc' : D.atKey (kI z) (dI 0) = dI c := hc
      rw [this] at hc'
      injection hc' with hc'
      injection hc' with _ hc'
      rw [← hc']; rfl
  rw [e]
  exact hK
/-- 'm[z] = p'. -/
theorem wpList_putP (h : PmAt w mb f k) (hk : k ≤ 65536) (hg : o.guard = none) (m x v : Operand) (hop : o.op = Op.mapUpdate 55 m x v) (z : Int) (hz : (Lit.int .i64 z).wf = true) (p : Nat) (hp : p ≤ 65536) (hm : a.eval m = .map (some mb)) (hx : a.eval x = .int .i64 z) (hv : a.eval v = .int .i64 (p : Int))
    (hK : ∀ w', PmAt w' mb (putF f z p) (if (f z).isSome then k else k + 1) → Only mb w w' → wpList Try.prog ops Q rest (a.put o.dst undef) w') : wpList Try.prog ops Q (o :: rest) a w := by
  obtain ⟨D, ho, hs, hh, ha⟩ := h
  exact wpList_mapUpdate_in w hg m x v 55 hop 3 3 keyedI Try.underlying55 _ mb k D hm ho (by unfold maxLen; omega) _ _ (kI z) hx hv (keyI hz) (dI (p : Int)) [] (plainElem_int Try.underlying3 (wfI (by omega) (by omega))) fun w' h1 h2 => hK w' (PmAt.put ho hs hh ha z p h1) (only_of_turned h2)
/-- .. as a step of a region that draws. -/
theorem step_putP {K : Act → World → Prop} (h : PmAt w mb f k) (hk : k ≤ 65536) (m x v : Operand) (hop : o.op = Op.mapUpdate 55 m x v) (z : Int) (hz : (Lit.int .i64 z).wf = true) (p : Nat) (hp : p ≤ 65536) (hm : a.eval m = .map (some mb)) (hx : a.eval x = .int .i64 z) (hv : a.eval v = .int .i64 (p : Int))
    (hK : ∀ w', PmAt w' mb (putF f z p) (if (f z).isSome then k else k + 1) → Only mb w w' → K (a.put o.dst undef) w') : o.wp Try.prog a w K Q := by
  obtain ⟨D, ho, hs, hh, ha⟩ := h
  obtain ⟨w', hrun, r1, r2⟩ := ho.store (val := .int .i64 (p : Int)) keyedI Try.underlying55 (by unfold maxLen; omega) (keyI hz) (plainElem_int Try.underlying3 (wfI (by omega) (by omega)))
  unfold Oper.wp
  simp [execOp, hop, hm, hx, hv, hrun, Result.andThen]
  exact hK w' (PmAt.put ho hs hh ha z p r1) (only_of_turned r2)
/-- 'delete(m, z)', as a step. -/
theorem step_delP {K : Act → World → Prop} (h : PmAt w mb f k) (m x : Operand) (hop : o.op = Op.call { callee := Callee.builtin Builtin.delete, args := #[m, x], argTypes := #[55, 3] }) (z : Int) (hz : (Lit.int .i64 z).wf = true) (hf : (f z).isSome = true) (hm : a.eval m = .map (some mb)) (hx : a.eval x = .int .i64 z)
    (hK : ∀ w', PmAt w' mb (delF11 f z) (k - 1) → Only mb w w' → K (a.put o.dst (.tuple #[])) w') : o.wp Try.prog a w K Q := by
  obtain ⟨D, ho, hs, hh, ha⟩ := h
  obtain ⟨w', hrun, r1, r2⟩ := ho.drop keyedI Try.underlying55 (keyI hz) o.type
  unfold Oper.wp
  simp [execOp, hop, resolve, invoke, builtin, hm, hx, hrun, Result.andThen]
  exact hK w' (PmAt.del ho hs hh ha z r1 hf) (only_of_turned r2)
end
end Go.Proofs.Ytebmomanpkmloaa
