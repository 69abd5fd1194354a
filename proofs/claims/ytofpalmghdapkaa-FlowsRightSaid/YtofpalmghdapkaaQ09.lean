/- Lemmas, several texts in one. -/
import Derived.Test.YtofpalmghdapkaaQ08
import Derived.Test.YtofpalmghdapkaaQ02
import Derived.Maps.OwnSet
import Derived.Test.YtofpalmghdapkaaQ07
import Derived.WalkKit
import Derived.ProofKit
import Derived.Deep.RegionHeld3
import Derived.Deep.DeepCutAuto
import Derived.Test.YtofpalmghdapkaaQ03
import Derived.Test.YtofpalmghdapkaaQ04
/- The library's heap over a list of alarms in memory: Push, Pop, Remove, Fix. -/
namespace Go.Proofs.Ytofpalmghdapkaa
open Go.ChangeShapes Go.WideShapes Go.ChangeAt Go.RowKit
set_option linter.unusedVariables false
set_option linter.unusedSimpArgs false

/-- .. that can be told how many they are, put at the end, and taken from there. -/
structure HeapC2 (ad : Addr) extends HeapC ad where
  any_ : Al → Value
  len_ : ∀ {w l F}, Rep w l F → ∀ n : Nat, l.length = n → Calls Try.prog 83 #[.pointer (some ad)] w fun e w' => e = .returned (.int .i64 n) ∧ Below w.heap.size w w'
  push : ∀ {w l F}, Rep w l F → ∀ a : Al, 0 ≤ a.num ∧ a.num ≤ 2147483647 → l.length < 256 → (∀ b ∈ l, b.num ≠ a.num) → Calls Try.prog 86 #[.pointer (some ad), any_ a] w fun e w' => e = .returned (.tuple #[]) ∧ ∃ F', Rep w' (l ++ [a]) F' ∧ Newer w F F' ∧ Moves w w' F
  /-- the last one is taken from the list, but its place stands still. -/
  Cut : World → List Al → Nat → (Nat → Prop) → Prop
  pop : ∀ {w l F}, Rep w l F → ∀ (n : Nat) (v : Value), l.length = n + 1 → any_ (atA l n) = v → Calls Try.prog 85 #[.pointer (some ad)] w fun e w' => e = .returned v ∧ Cut w' l n F ∧ Moves w w' F
theorem meth_len (ad : Addr) (n : Nat) (w : World) : (method (n + 9) 116 (.pointer (some ad)) "Len").run Try.prog w = .ok (83, .pointer (some ad)) w := by kernel_rfl
theorem meth_push (ad : Addr) (n : Nat) (w : World) : (method (n + 9) 116 (.pointer (some ad)) "Push").run Try.prog w = .ok (86, .pointer (some ad)) w := by kernel_rfl
theorem meth_pop (ad : Addr) (n : Nat) (w : World) : (method (n + 9) 116 (.pointer (some ad)) "Pop").run Try.prog w = .ok (85, .pointer (some ad)) w := by kernel_rfl
theorem take_last {l : List Al} {n : Nat} (h : l.length = n + 1) : (atA l n :: l.take n).Perm l := by
  have hn : n < l.length := by omega
  have e : l = l.take n ++ [atA l n] := by
    have h1 := List.take_append_getElem hn
    rw [show n + 1 = l.length by omega, List.take_length] at h1
    rw [atA_get hn]
    exact h1.symm
  refine (List.perm_append_comm (l₁ := [atA l n])).trans ?_
  exact e ▸ List.Perm.refl _
theorem DownR.heap0 {ad : Addr} {K : HeapC ad} {l l' : List Al} {F : Nat → Prop} {n : Nat} {w w' : World} {b : Bool} (h : DownR K l F 0 n w w' b l') : HeapA l' n := by
  cases b
  · obtain ⟨e, hu⟩ := h.stood rfl
    rw [e]
    exact hu.top
  · exact h.went rfl
section
variable {ad : Addr} (K : HeapC2 ad)
set_option maxRecDepth 100000 in
set_option maxHeartbeats 4000000 in
theorem hfix (l : List Al) (F : Nat → Prop) (i n : Nat) (w : World) (h : K.Rep w l F) (hn : l.length = n) (hi : i < n) (hh : HoleA l n i) :
    Calls Try.prog 60 #[.iface 116 (.pointer (some ad)), .int .i64 i] w fun e w' => e = .returned (.tuple #[]) ∧ ∃ l', K.Rep w' l' F ∧ Moves w w' F ∧ OrdA n l l' ∧ HeapA l' n := by
  have HK := Go.Lib.hid h
  have HH := Go.Lib.hid hh
  have HN := Go.Lib.hid hn
  have hsz := K.size h
  rw [hn] at hsz
  clear h hh hn
  have mN := meth_len ad
  go_enter Try.func60, Try.ntmps60
  go_upto_if 9 with (first
    | (go_at_call 83; refine (K.len_ HK.out n HN.out).mono ?_; rintro e w1 ⟨rfl, y1⟩; have HK1 := Go.Lib.hid (HeapC.at HK.out y1); dsimp only)
    | (go_at_call 63; refine (hdown K.toHeapC l F i n w1 HK1.out (by rw [HN.out]; exact hi) (by rw [HN.out]; exact Nat.le_refl _) HH.out).mono ?_; rintro e w2 ⟨b, l2, rfl, hd⟩; have HD := Go.Lib.hid hd; clear hd; dsimp only))
  cases b
  · obtain ⟨e2, hu⟩ := HD.out.stood rfl
    subst e2
    have HU := Go.Lib.hid hu
    clear hu
    go_wp2_with (go_at_call 64; refine (hup K.toHeapC l2 F i n w2 HD.out.rep (by rw [HN.out]; exact Nat.le_refl _) hi HU.out).mono ?_; rintro e w3 ⟨rfl, l3, r3, m3, o3, p3⟩; dsimp only)
    go_end0
    exact ⟨rfl, l3, r3, (moves_below y1).trans (HD.out.moves.trans m3), o3, p3⟩
  · go_wp2
    go_end0
    exact ⟨rfl, l2, HD.out.rep, (moves_below y1).trans HD.out.moves, HD.out.ord, HD.out.went rfl⟩
set_option maxRecDepth 100000 in
set_option maxHeartbeats 4000000 in
theorem hpush (l : List Al) (F : Nat → Prop) (a : Al) (w : World) (h : K.Rep w l F) (ha : 0 ≤ a.num ∧ a.num ≤ 2147483647) (hn : l.length < 256) (ho : ∀ b ∈ l, b.num ≠ a.num) (hh : HeapA l l.length) :
    Calls Try.prog 61 #[.iface 116 (.pointer (some ad)), K.any_ a] w fun e w' => e = .returned (.tuple #[]) ∧ ∃ F' l', K.Rep w' l' F' ∧ Newer w F F' ∧ Moves w w' F ∧ l'.Perm (l ++ [a]) ∧ HeapA l' l'.length := by
  have HK := Go.Lib.hid h
  have HH := Go.Lib.hid hh
  have HO := Go.Lib.hid ho
  obtain ⟨v, hv⟩ : ∃ v, K.any_ a = v := ⟨_, rfl⟩
  have HV := Go.Lib.hid hv
  rw [hv]
  clear h hh ho hv
  have mN := meth_len ad
  have mP := meth_push ad
  obtain ⟨n, hln⟩ : ∃ n, l.length = n := ⟨_, rfl⟩
  have HL := Go.Lib.hid hln
  have HL2 : Hid ((l ++ [a]).length = n + 1) := Go.Lib.hid (by rw [List.length_append, hln]; rfl)
  rw [hln] at hn
  clear hln
  have e1 : IntKind.i64.wrap ((n : Int) + 1 - 1) = (n : Nat) := by rw [IntWalk.i64_in _ (by omega)]; omega
  go_enter Try.func61, Try.ntmps61
  go_wp2_with (first
    | (go_at_call 86; rw [← HV.out]; refine (K.push HK.out a ha (by rw [HL.out]; exact hn) HO.out).mono ?_; rintro e w1 ⟨rfl, F1, r1, n1, m1⟩; have HK1 := Go.Lib.hid r1; clear r1; dsimp only)
    | (go_at_call 83; refine (K.len_ HK1.out (n + 1) HL2.out).mono ?_; rintro e w2 ⟨rfl, y2⟩; have HK2 := Go.Lib.hid (HeapC.at HK1.out y2); dsimp only)
    | (go_at_call 64; refine (hup K.toHeapC (l ++ [a]) F1 n (n + 1) w2 HK2.out (by rw [HL2.out]; exact Nat.le_refl _) (by omega) (by have := HeapA.snoc HH.out a; rwa [HL.out] at this)).mono ?_; rintro e w3 ⟨rfl, l3, r3, m3, o3, p3⟩; dsimp only))
  go_end0
  have hl3 : l3.length = n + 1 := by rw [o3.len]; exact HL2.out
  exact ⟨rfl, F1, l3, r3, n1, m1.next n1 ((moves_below y2).trans m3), o3.perm, by rw [hl3]; exact p3⟩
set_option maxRecDepth 100000 in
set_option maxHeartbeats 4000000 in
theorem hremove (l : List Al) (F : Nat → Prop) (i : Nat) (v : Value) (w : World) (h : K.Rep w l F) (hi : i < l.length) (hh : HeapA l l.length) (hv : K.any_ (atA l i) = v) :
    Calls Try.prog 58 #[.iface 116 (.pointer (some ad)), .int .i64 i] w fun e w' => e = .returned v ∧ ∃ l' n, K.Cut w' l' n F ∧ Moves w w' F ∧ l'.length = n + 1 ∧ l'.Perm l ∧ atA l' n = atA l i ∧ HeapA l' n := by
  have HK := Go.Lib.hid h
  have HH := Go.Lib.hid hh
  have HV := Go.Lib.hid hv
  have hsz := K.size h
  clear h hh hv
  have mN := meth_len ad
  have mS := meth_swap ad
  have mP := meth_pop ad
  obtain ⟨n, hln⟩ : ∃ n, l.length = n + 1 := ⟨l.length - 1, by omega⟩
  have HL := Go.Lib.hid hln
  rw [hln] at hsz hi
  clear hln
  have e2 : IntKind.i64.wrap ((n : Int) + 1 - 1) = (n : Nat) := by rw [IntWalk.i64_in _ (by omega)]; omega
  by_cases hin : i = n
  · subst hin
    have t0 : ((i : Int) != (i : Int)) = false := by simp
    go_enter Try.func58, Try.ntmps58
    go_wp2_with (first
      | (go_at_call 83; refine (K.len_ HK.out (i + 1) HL.out).mono ?_; rintro e w1 ⟨rfl, y1⟩; have HK1 := Go.Lib.hid (HeapC.at HK.out y1); dsimp only)
      | (go_at_call 85; refine (K.pop HK1.out i v HL.out HV.out).mono ?_; rintro e w4 ⟨rfl, r4, m4⟩; have HK4 := Go.Lib.hid r4; clear r4; dsimp only))
    go_ret
    exact ⟨rfl, l, i, HK4.out, (moves_below y1).trans m4, HL.out, List.Perm.refl _, rfl, HH.out.less (by rw [HL.out]; omega)⟩
  · have hin2 : i < n := by omega
    have t0 : ((n : Int) != (i : Int)) = true := by simp; omega
    have HHole : Hid (HoleA (swA l i n) n i) := Go.Lib.hid ((by rw [← HL.out]; exact HH.out : HeapA l (n + 1)).swap (by rw [HL.out]; omega) (by omega))
    have HSL : Hid ((swA l i n).length = n + 1) := Go.Lib.hid (by rw [sw_len]; exact HL.out)
    have HSA : Hid (atA (swA l i n) n = atA l i) := Go.Lib.hid (by rw [sw_at (by rw [HL.out]; omega) (by rw [HL.out]; omega), if_pos rfl])
    have HSP : Hid ((swA l i n).Perm l) := Go.Lib.hid (sw_perm (by rw [HL.out]; omega) (by rw [HL.out]; omega))
    obtain ⟨l1, hl1⟩ : ∃ l1, swA l i n = l1 := ⟨_, rfl⟩
    rw [hl1] at HHole HSL HSA HSP
    have HL1 := Go.Lib.hid hl1
    clear hl1 hin
    go_enter Try.func58, Try.ntmps58
    go_upto_if 20 with (first
      | (go_at_call 83; refine (K.len_ HK.out (n + 1) HL.out).mono ?_; rintro e w1 ⟨rfl, y1⟩; have HK1 := Go.Lib.hid (HeapC.at HK.out y1); dsimp only)
      | (go_at_call 87; refine (K.swap HK1.out i n (by rw [HL.out]; omega) (by rw [HL.out]; omega)).mono ?_; rintro e w2 ⟨rfl, r2, m2⟩; rw [HL1.out] at r2; have HK2 := Go.Lib.hid r2; clear r2; dsimp only)
      | (go_at_call 63; refine (hdown K.toHeapC l1 F i n w2 HK2.out (by rw [HSL.out]; omega) (by rw [HSL.out]; omega) HHole.out).mono ?_; rintro e w3 ⟨b, l3, rfl, hd⟩; have HD := Go.Lib.hid hd; clear hd; have HT := Go.Lib.hid ((HD.out.ord.tail n (Nat.le_refl _)).trans HSA.out); have HL3 := Go.Lib.hid (HD.out.ord.len.trans HSL.out); dsimp only))
    cases b
    · obtain ⟨e2', hu⟩ := HD.out.stood rfl
      have HU : Hid (UpA l3 n i) := Go.Lib.hid (by rw [e2']; exact hu)
      clear hu e2'
      go_wp2_with (first
        | (go_at_call 64; refine (hup K.toHeapC l3 F i n w3 HD.out.rep (by rw [HL3.out]; omega) hin2 HU.out).mono ?_; rintro e w5 ⟨rfl, l5, r5, m5, o5, p5⟩; have HK5 := Go.Lib.hid r5; have HP := Go.Lib.hid p5; have HO5 := Go.Lib.hid o5; have HT5 := Go.Lib.hid ((o5.tail n (Nat.le_refl _)).trans HT.out); have HL5 := Go.Lib.hid (o5.len.trans HL3.out); clear r5 o5 p5; dsimp only)
        | (go_at_call 85; refine (K.pop HK5.out n v HL5.out (by rw [HT5.out]; exact HV.out)).mono ?_; rintro e w4 ⟨rfl, r4, m4⟩; have HK4 := Go.Lib.hid r4; clear r4; dsimp only))
      go_ret
      exact ⟨rfl, l5, n, HK4.out, (moves_below y1).trans (m2.trans (HD.out.moves.trans (m5.trans m4))), HL5.out, HO5.out.perm.trans (HD.out.ord.perm.trans HSP.out), HT5.out, HP.out⟩
    · have HP := Go.Lib.hid (HD.out.went rfl)
      go_wp2_with (first
        | (go_at_call 85; refine (K.pop HD.out.rep n v HL3.out (by rw [HT.out]; exact HV.out)).mono ?_; rintro e w4 ⟨rfl, r4, m4⟩; have HK4 := Go.Lib.hid r4; clear r4; dsimp only))
      go_ret
      exact ⟨rfl, l3, n, HK4.out, (moves_below y1).trans (m2.trans (HD.out.moves.trans m4)), HL3.out, HD.out.ord.perm.trans HSP.out, HT.out, HP.out⟩
end
end Go.Proofs.Ytofpalmghdapkaa

/- A map from numbers to places, in memory: asked, written, taken from. -/
namespace Go.Proofs.Ytofpalmghdapkaa
open Go.ChangeShapes Go.WideShapes Go.ChangeAt Go.RowKit Go.Maps
set_option linter.unusedVariables false
set_option linter.unusedSimpArgs false

theorem keyedI : Keyed Try.prog 3 := int_keyed Try.underlying3
theorem zeroI (w : World) : (zeroValue 3).run Try.prog w = .ok (.int .i64 0) w := by kernel_rfl
abbrev kI (z : Int) : Lit := .int .i64 z
abbrev dI (z : Int) : DataW Unit := .lit (.int .i64 z)
theorem wfI {z : Int} (h0 : -9223372036854775808 ≤ z) (h1 : z ≤ 9223372036854775807) : (Lit.int .i64 z).wf = true := WalkArith.wf_i64 (by omega)
theorem keyI {z : Int} (h : (Lit.int .i64 z).wf = true) : keyOf Try.prog 3 (.int .i64 z) = some (kI z) := keyOf_int_mk Try.underlying3 h
/-- block mb is a map of k numbers that says where each stands. -/
def PmAt (w : World) (mb : Nat) (f : Int → Option Nat) (k : Nat) : Prop :=
  ∃ D : DataW Unit, w.ownsMap Try.prog 3 (plainElem Try.prog 3) mb k D ∧ Maps.size D = k ∧ (∀ z, Maps.has D (kI z) = (f z).isSome) ∧ ∀ z p, f z = some p → D.atKey (kI z) (dI 0) = dI (p : Int)
def putF (f : Int → Option Nat) (z : Int) (p : Nat) : Int → Option Nat := fun y => if y = z then some p else f y
def delF11 (f : Int → Option Nat) (z : Int) : Int → Option Nat := fun y => if y = z then none else f y
section
variable {w w' : World} {mb k : Nat} {f : Int → Option Nat}
theorem tightM {w : World} {k n b : Nat} {D : DataW Unit} (h : w.ownsMap Try.prog 3 (plainElem Try.prog 3) b n D) (hk : Maps.size D = k) : w.ownsMap Try.prog 3 (plainElem Try.prog 3) b k D := by
  obtain ⟨es, clock, hb, F, hs, rfl⟩ := h
  refine ⟨es, clock, hb, F, ?_, rfl⟩
  simp [Maps.size, length_sorted] at hk
  omega
theorem only_of_turned (h : w.mapTurned w' mb) : Only mb w w' := by
  obtain ⟨es, clock, es', clock', hb, rfl⟩ := h
  exact ⟨rfl, rfl, rfl, by simp [Go.ChangeMaps.setBlock], fun i hi => Go.ChangeMaps.heap_setBlock_other hb _ hi⟩
theorem kI_ne {y z : Int} (h : y ≠ z) : kI y ≠ kI z := fun e => h (by injection e)
theorem kI_key (z : Int) : WideAt.IsKeyLit (kI z) := by simp [WideAt.IsKeyLit]
theorem PmAt.lt (h : PmAt w mb f k) : mb < w.heap.size := by obtain ⟨D, ho, _⟩ := h; exact ho.lt
theorem PmAt.keep (h : PmAt w mb f k) (hb : w'.heap[mb]? = w.heap[mb]?) : PmAt w' mb f k := by
  obtain ⟨D, ⟨es, clock, he, F, hs, hD⟩, h2⟩ := h
  exact ⟨D, ⟨es, clock, hb.trans he, F, hs, hD⟩, h2⟩
theorem PmAt.made (w : World) : PmAt (w.alloc (.map #[] 0)) w.heap.size (fun _ => none) 0 :=
  ⟨.map [], World.ownsMap_made w _ _ _, rfl, fun z => rfl, fun z p e => by cases e⟩
theorem PmAt.put {D : DataW Unit} (ho : w.ownsMap Try.prog 3 (plainElem Try.prog 3) mb k D) (hs : Maps.size D = k) (hh : ∀ z, Maps.has D (kI z) = (f z).isSome) (ha : ∀ z p, f z = some p → D.atKey (kI z) (dI 0) = dI (p : Int)) (z : Int) (p : Nat) (ho' : w'.ownsMap Try.prog 3 (plainElem Try.prog 3) mb (k + 1) (D.put (kI z) (dI (p : Int)))) :
    PmAt w' mb (putF f z p) (if (f z).isSome then k else k + 1) := by
  have ht := ho.tidy keyedI
  have hsz : Maps.size (D.put (kI z) (dI (p : Int))) = if (f z).isSome then k else k + 1 := by rw [size_put ht, hh z, hs]
  refine ⟨_, tightM ho' hsz, hsz, fun y => ?_, fun y q e => ?_⟩
  · unfold putF
    by_cases hy : y = z
    · subst hy; rw [if_pos rfl, has_put_same ho.isMap (kI_key y)]; rfl
    · rw [if_neg hy, has_put_other (kI_ne hy)]; exact hh y
  · unfold putF at e
    by_cases hy : y = z
    · subst hy; rw [if_pos rfl] at e; injection e with e; subst e; rw [atKey_put_same ho.isMap (kI_key y)]
    · rw [if_neg hy] at e; rw [atKey_put_other (kI_ne hy)]; exact ha y q e
theorem PmAt.del {D : DataW Unit} (ho : w.ownsMap Try.prog 3 (plainElem Try.prog 3) mb k D) (hs : Maps.size D = k) (hh : ∀ z, Maps.has D (kI z) = (f z).isSome) (ha : ∀ z p, f z = some p → D.atKey (kI z) (dI 0) = dI (p : Int)) (z : Int) (ho' : w'.ownsMap Try.prog 3 (plainElem Try.prog 3) mb k (D.del (kI z))) (hz : (f z).isSome = true) :
    PmAt w' mb (delF11 f z) (k - 1) := by
  have ht := ho.tidy keyedI
  have hsz : Maps.size (D.del (kI z)) = k - 1 := by have := size_del (k := kI z) ht; rw [hh z, hz, hs] at this; simp at this; omega
  refine ⟨_, tightM ho' hsz, hsz, fun y => ?_, fun y q e => ?_⟩
  · unfold delF11
    by_cases hy : y = z
    · subst hy; rw [if_pos rfl, has_del_same]; rfl
    · rw [if_neg hy, has_del_other (kI_ne hy)]; exact hh y
  · unfold delF11 at e
    by_cases hy : y = z
    · subst hy; rw [if_pos rfl] at e; cases e
    · rw [if_neg hy] at e; rw [atKey_del_other (kI_ne hy)]; exact ha y q e
end
def placeV (f : Int → Option Nat) (z : Int) : Value := .tuple #[.int .i64 (((f z).getD 0 : Nat) : Int), .bool (f z).isSome]
section
variable {ops : Array Oper} {rest : List Oper} {o : Oper} {a : Act} {Q : Exit → Act → World → Prop} {w : World} {mb k : Nat} {f : Int → Option Nat}
/-- 'i, ok := m[z]'. -/
theorem wpList_place (h : PmAt w mb f k) (hg : o.guard = none) (m x : Operand) (hop : o.op = Op.lookup 92 m x true) (z : Int) (hz : (Lit.int .i64 z).wf = true) (hm : a.eval m = .map (some mb)) (hx : a.eval x = .int .i64 z)
    (hK : wpList Try.prog ops Q rest (a.put o.dst (placeV f z)) w) : wpList Try.prog ops Q (o :: rest) a w := by
  obtain ⟨D, ho, hs, hh, ha⟩ := h
  refine wpList_lookup_own_ok_int w hg m x 92 hop 3 3 .i64 keyedI Try.underlying92 Try.underlying3 (zeroI w) mb k D hm ho _ (kI z) hx (keyI hz) fun c hc _ => ?_
  have e : Value.tuple #[.int .i64 c, .bool (Maps.has D (kI z))] = placeV f z := by
    unfold placeV
    rw [hh z]
    cases hf : f z with
    | none =>
      have := atKey_of_not_has (D := D) (k := kI z) (by rw [hh z, hf]; rfl) (dI 0)
      have hc' : D.atKey (kI z) (dI 0) = dI c := hc
      rw [this] at hc'
      injection hc' with hc'
      injection hc' with _ hc'
      rw [← hc']; rfl
    | some p =>
      have := ha z p hf
      have hc' : D.atKey (kI z) (dI 0) = dI c := hc
      rw [this] at hc'
      injection hc' with hc'
      injection hc' with _ hc'
      rw [← hc']; rfl
  rw [e]
  exact hK
/-- 'm[z] = p'. -/
theorem wpList_putP (h : PmAt w mb f k) (hk : k ≤ 65536) (hg : o.guard = none) (m x v : Operand) (hop : o.op = Op.mapUpdate 92 m x v) (z : Int) (hz : (Lit.int .i64 z).wf = true) (p : Nat) (hp : p ≤ 65536) (hm : a.eval m = .map (some mb)) (hx : a.eval x = .int .i64 z) (hv : a.eval v = .int .i64 (p : Int))
    (hK : ∀ w', PmAt w' mb (putF f z p) (if (f z).isSome then k else k + 1) → Only mb w w' → wpList Try.prog ops Q rest (a.put o.dst undef) w') : wpList Try.prog ops Q (o :: rest) a w := by
  obtain ⟨D, ho, hs, hh, ha⟩ := h
  exact wpList_mapUpdate_in w hg m x v 92 hop 3 3 keyedI Try.underlying92 _ mb k D hm ho (by unfold maxLen; omega) _ _ (kI z) hx hv (keyI hz) (dI (p : Int)) [] (plainElem_int Try.underlying3 (wfI (by omega) (by omega))) fun w' h1 h2 => hK w' (PmAt.put ho hs hh ha z p h1) (only_of_turned h2)
/-- .. as a step of a region that draws. -/
theorem step_putP {K : Act → World → Prop} (h : PmAt w mb f k) (hk : k ≤ 65536) (m x v : Operand) (hop : o.op = Op.mapUpdate 92 m x v) (z : Int) (hz : (Lit.int .i64 z).wf = true) (p : Nat) (hp : p ≤ 65536) (hm : a.eval m = .map (some mb)) (hx : a.eval x = .int .i64 z) (hv : a.eval v = .int .i64 (p : Int))
    (hK : ∀ w', PmAt w' mb (putF f z p) (if (f z).isSome then k else k + 1) → Only mb w w' → K (a.put o.dst undef) w') : o.wp Try.prog a w K Q := by
  obtain ⟨D, ho, hs, hh, ha⟩ := h
  obtain ⟨w', hrun, r1, r2⟩ := ho.store (val := .int .i64 (p : Int)) keyedI Try.underlying92 (by unfold maxLen; omega) (keyI hz) (plainElem_int Try.underlying3 (wfI (by omega) (by omega)))
  unfold Oper.wp
  simp [execOp, hop, hm, hx, hv, hrun, Result.andThen]
  exact hK w' (PmAt.put ho hs hh ha z p r1) (only_of_turned r2)
/-- 'delete(m, z)', as a step. -/
theorem step_delP {K : Act → World → Prop} (h : PmAt w mb f k) (m x : Operand) (hop : o.op = Op.call { callee := Callee.builtin Builtin.delete, args := #[m, x], argTypes := #[92, 3] }) (z : Int) (hz : (Lit.int .i64 z).wf = true) (hf : (f z).isSome = true) (hm : a.eval m = .map (some mb)) (hx : a.eval x = .int .i64 z)
    (hK : ∀ w', PmAt w' mb (delF11 f z) (k - 1) → Only mb w w' → K (a.put o.dst (.tuple #[])) w') : o.wp Try.prog a w K Q := by
  obtain ⟨D, ho, hs, hh, ha⟩ := h
  obtain ⟨w', hrun, r1, r2⟩ := ho.drop keyedI Try.underlying92 (keyI hz) o.type
  unfold Oper.wp
  simp [execOp, hop, resolve, invoke, builtin, hm, hx, hrun, Result.andThen]
  exact hK w' (PmAt.del ho hs hh ha z r1 hf) (only_of_turned r2)
end
end Go.Proofs.Ytofpalmghdapkaa

/- Statements of layer 11: what is not asleep. -/
namespace Go.Proofs.Ytofpalmghdapkaa
open Go.ChangeShapes Go.WideShapes Go.ChangeAt Go.RowKit
set_option linter.unusedVariables false
set_option linter.unusedSimpArgs false

theorem DueAt.keep {w w' w'' : World} {F : Nat → Prop} {l : List Int} {A : Option Addr} {c : Nat} (h : DueAt w w' F l A c) (m : Moves w' w'' F) : InsAt .i64 w'' l A c :=
  h.ins.keepB fun ad e => m.block _ (h.apart ad e).2.1 (h.apart ad e).2.2
theorem addr_zero (a : Addr) : a.add 0 = a := by unfold Addr.add; simp
theorem awake_facts11 : ∃ x1 x2 x3 x4 : Wh, setH wh0 7 5 = (x1, 0) ∧ setH x1 8 3 = (x2, 0) ∧ tickH x2 4 = (x3, [8], 0) ∧ tickH x3 9 = (x4, [7], 0) := by
  refine ⟨⟨[⟨7, 5⟩], 0⟩, ⟨[⟨7, 5⟩, ⟨8, 3⟩], 0⟩, ⟨[⟨7, 5⟩], 4⟩, ⟨[], 9⟩, rfl, rfl, ?_, ?_⟩
  · have h : dueA [⟨7, 5⟩, ⟨8, 3⟩] 4 = [⟨8, 3⟩] := due_is (List.Perm.refl _) (List.pairwise_singleton _ _)
    unfold tickH
    rw [if_neg (by decide)]
    dsimp only
    rw [h]
    rfl
  · have h : dueA [⟨7, 5⟩] 9 = [⟨7, 5⟩] := due_is (List.Perm.refl _) (List.pairwise_singleton _ _)
    unfold tickH
    rw [if_neg (by decide)]
    dsimp only
    rw [h]
    rfl
end Go.Proofs.Ytofpalmghdapkaa

/- The first ones of a row of numbers. -/
namespace Go.Proofs.Ytofpalmghdapkaa
open Go.ChangeShapes Go.WideShapes Go.ChangeAt Go.RowKit
set_option linter.unusedVariables false
set_option linter.unusedSimpArgs false

theorem InsAt.first200 {w : World} {L : List Int} {A : Option Addr} {c : Nat} (h : InsAt .u16 w L A c) (hr : ∀ n ∈ L, 0 ≤ n ∧ n ≤ 65535) : ∃ M : List Int, L.take 200 = M ∧ M.length ≤ 200 ∧ (∀ n ∈ M, 0 ≤ n ∧ n ≤ 65535) ∧ InsAt .u16 w M A c ∧ (if (200 : Int) < (L.length : Int) then (200 : Int) else (L.length : Int)) = (M.length : Int) ∧ (M.length : Int) ≤ (c : Int) := by
  have hlc := h.len
  have hl : (L.take 200).length = min 200 L.length := List.length_take
  refine ⟨_, rfl, by omega, fun n hn => hr n (List.mem_of_mem_take hn), h.take 200, ?_, by omega⟩
  split <;> omega
end Go.Proofs.Ytofpalmghdapkaa

/- Contracts of the document's own answers for package wheel: Same; rows of numbers of the call's own. -/
namespace Go.Proofs.Ytofpalmghdapkaa
open Go.ChangeShapes Go.WideShapes Go.ChangeAt Go.RowKit
set_option linter.unusedVariables false
set_option linter.unusedSimpArgs false

theorem grownI {w0 w w' : World} {row : Option Nat} (h : w.grownBy w' row) (hr : ∀ g, row = some g → w0.heap.size ≤ g) (hs : w0.heap.size ≤ w.heap.size) : Below w0.heap.size w w' :=
  ⟨h.os, h.tape, h.output, h.size, fun b hb => h.block b (by omega) (fun e => by have := hr b e.symm; omega)⟩
theorem own_geI {w : World} {base : Nat} {e : TypeId} {size n c : Nat} {A : Option Addr} {xs : List Value} (h : w.ownsRow base e size (.slice A n c) n xs) : ∀ g, blk A = some g → base ≤ g := fun g hg => by
  rcases own_addr h with ⟨rfl, _⟩ | ⟨g', rfl, h1, h2⟩
  · cases hg
  · injection hg with hg; subst hg; exact h1
theorem own_ltI {w : World} {base : Nat} {e : TypeId} {size n c : Nat} {A : Option Addr} {xs : List Value} (h : w.ownsRow base e size (.slice A n c) n xs) : ∀ g, blk A = some g → g < w.heap.size := fun g hg => by
  rcases own_addr h with ⟨rfl, _⟩ | ⟨g', rfl, h1, h2⟩
  · cases hg
  · injection hg with hg; subst hg; exact h2
theorem int_one (k : IntKind) (l : List Int) : ∀ u ∈ l.map (fun n => Value.int k n), u.oneCell' = true := fun u hu => by
  obtain ⟨n, _, rfl⟩ := List.mem_map.1 hu
  rfl
theorem InsAt.ofOwn {w : World} {l : List Int} {A : Option Addr} {c n base : Nat} {e : TypeId} (hn : l.length = n) (ho : w.ownsRow base e 1 (.slice A n c) n (l.map (fun n => Value.int .i64 n))) : InsAt .i64 w l A c := by
  have hcc := own_cap ho
  unfold maxLen at hcc
  refine ⟨by omega, hcc.2, fun e => ?_, own_rd ho⟩
  rcases own_addr ho with ⟨_, _, hc⟩ | ⟨g, e', _⟩
  · exact hc
  · rw [e'] at e; cases e
end Go.Proofs.Ytofpalmghdapkaa

/- The document's wheels in memory; the contract of find. -/
namespace Go.Proofs.Ytofpalmghdapkaa
open Go.ChangeShapes Go.WideShapes Go.ChangeAt Go.RowKit
set_option linter.unusedVariables false
set_option linter.unusedSimpArgs false

def Al.L (a : Al) : List Value := [.int .i64 a.num, .int .i64 a.at_]
abbrev alL (a : Al) : List Value := [.int .i64 a.num, .int .i64 a.at_]
theorem Al.len (a : Al) : a.L.length = 2 := rfl
abbrev whL (x : Wh) (A : Option Addr) (c : Nat) : List Value := [.slice A x.list.length c, .int .i64 x.now]
abbrev whV (x : Wh) (A : Option Addr) (c : Nat) : Value := .agg #[.slice A x.list.length c, .int .i64 x.now]
theorem al_one (l : List Al) : ∀ u ∈ l.flatMap Al.L, u.oneCell' = true := fun u hu => by
  obtain ⟨e, _, he⟩ := List.mem_flatMap.1 hu
  simp only [Al.L, List.mem_cons, List.not_mem_nil, or_false] at he
  rcases he with rfl | rfl <;> rfl
/-- alarms in a row. -/
structure AlAt (w : World) (l : List Al) (A : Option Addr) (c : Nat) : Prop where
  len : l.length ≤ c
  cap : c ≤ 9223372036854775807
  nil : A = none → c = 0
  rd : RdC w A (l.flatMap Al.L)
section
variable {w w' : World} {l : List Al} {A : Option Addr} {c : Nat}
theorem AlAt.at (h : AlAt w l A c) (y : Below w.heap.size w w') : AlAt w' l A c := ⟨h.len, h.cap, h.nil, h.rd.keep y⟩
theorem AlAt.cell (h : AlAt w l A c) {i : Nat} (hi : i < l.length) : ∃ ad, A = some ad ∧ ∀ Y, Below w.heap.size w Y → ∀ j v, (alL l[i])[j]? = some v → Y.cell? ((ad.add (i * 2)).add j) = some v := by
  rcases h.rd with h0 | ⟨ad, e, hc⟩
  · have := flat_len Al.L 2 Al.len l
    rw [h0] at this
    simp at this
    omega
  · refine ⟨ad, e, fun Y y j v hv => ?_⟩
    have hj : j < 2 := by have := (List.getElem?_eq_some_iff.1 hv).1; simpa using this
    have h1 : (l.flatMap Al.L)[i * 2 + j]? = some v := by
      rw [flat_get Al.L 2 Al.len l i j hi hj]; exact hv
    have h2 := hc _ _ h1
    rw [add_add]
    exact (y.cell (World.block_lt_of_cell? w _ h2)).trans h2
theorem AlAt.ofOwn {n base : Nat} {e : TypeId} (hn : l.length = n) (ho : w.ownsRow base e 2 (.slice A n c) n (l.flatMap Al.L)) : AlAt w l A c := by
  have hcc := own_cap ho
  unfold maxLen at hcc
  refine ⟨by omega, hcc.2, fun e => ?_, own_rd ho⟩
  rcases own_addr ho with ⟨_, _, hc⟩ | ⟨g, e', _⟩
  · exact hc
  · rw [e'] at e; cases e
end
def findI (l : List Al) (n : Int) : Int := match findH l n with
  | some i => (i : Int)
  | none => -1
end Go.Proofs.Ytofpalmghdapkaa

/- Contracts of the document's own answers for package wheel: without. -/
namespace Go.Proofs.Ytofpalmghdapkaa
open Go.ChangeShapes Go.WideShapes Go.ChangeAt Go.RowKit
set_option linter.unusedVariables false
set_option linter.unusedSimpArgs false

/-- append to a row of the call's own, as a step. -/
theorem step_appendI {P : Program} {op : Oper} {a : Act} {w : World} {K : Act → World → Prop} {Q : Exit → Act → World → Prop} (s x : Operand) (t : TypeId)
    (ho : op.op = .call { callee := .builtin .append, args := #[s, x], argTypes := #[t, t] })
    (base : Nat) (e : TypeId) (i : TypeInfo) (z : Value) (k bytes : Nat) (ht : P.underlying t = some (.slice e)) (hi : P.info? e = some i) (hz : i.zero = some z)
    (hsize : i.size = k) (hby : i.bytes = bytes) (hzs : z.cells.size = k) (hk : 0 < k)
    (v : Value) (n : Nat) (xs : List Value) (hs : a.eval s = v) (hown : w.ownsRow base e k v n xs)
    (ad : Addr) (m c : Nat) (news : List Value) (hx : a.eval x = .slice (some ad) m c) (hl : news.length = m * k) (hnews : ∀ j u, news[j]? = some u → w.cell? (ad.add j) = some u) (h1 : ∀ u ∈ news, u.oneCell' = true)
    (h63 : n + m ≤ maxLen) (hbytes : (n + m) * bytes ≤ 140737488355328) (hbase : base ≤ w.heap.size)
    (h : ∀ v' w', w'.ownsRow base e k v' (n + m) (xs ++ news) → w.grownBy w' v.ownBlock → (v'.ownBlock = v.ownBlock ∨ v'.ownBlock = some w.heap.size) → K (a.put op.dst v') w') : op.wp P a w K Q := by
  obtain ⟨v', w', hr, h2, h3, h4, h5⟩ := run_append_own_at (P := P) w base t op.type e i z k bytes ht hi hz hsize hby hzs hk v n xs hown ad m c news hl hnews h1 h63 hbytes hbase
  unfold Oper.wp execOp
  simp only [ho, resolve, invoke, builtin, Sem.run_bind, Sem.run_pure, Result.andThen_ok, List.map_toArray, List.map_cons, List.map_nil, hs, hx, hr]
  exact h v' w' h2 h3 h5
def WhPost (w : World) (x : Wh) (e : Ending) (w' : World) : Prop := ∃ A c, e = .returned (whV x A c) ∧ AlAt w' x.list A c ∧ Below w.heap.size w w' ∧ ∀ ad, A = some ad → w.heap.size ≤ ad.block ∧ ad.block < w'.heap.size
theorem AlAt.first {w : World} {l : List Al} {ad : Addr} {c : Nat} (h : AlAt w l (some ad) c) (k : Nat) : ∀ Y, Below w.heap.size w Y → ∀ j u, ((l.take k).flatMap Al.L)[j]? = some u → Y.cell? (ad.add j) = some u := fun Y y j u hj => by
  rcases (h.at y).rd with h' | ⟨ad', e, h'⟩
  · rw [← flat_take Al.L 2 Al.len, h', List.take_nil] at hj; cases hj
  · injection e with e; subst e
    rw [← flat_take Al.L 2 Al.len, List.getElem?_take] at hj
    split at hj
    · exact h' j u hj
    · cases hj
theorem AlAt.last {w : World} {l : List Al} {ad : Addr} {c : Nat} (h : AlAt w l (some ad) c) {k : Nat} (hk : k < l.length) : ∃ ad4, (if c = k + 1 then some ad else some (ad.add ((k + 1) * 2))) = some ad4 ∧ ∀ Y, Below w.heap.size w Y → ∀ j u, ((l.drop (k + 1)).flatMap Al.L)[j]? = some u → Y.cell? (ad4.add j) = some u := by
  have hc := h.len
  by_cases e : c = k + 1
  · refine ⟨ad, if_pos e, fun Y y j u hj => ?_⟩
    rw [List.drop_eq_nil_of_le (by omega)] at hj
    cases hj
  · refine ⟨_, if_neg e, fun Y y j u hj => ?_⟩
    rcases (h.at y).rd with h' | ⟨ad', e', h'⟩
    · rw [← flat_drop Al.L 2 Al.len, h', List.drop_nil] at hj; cases hj
    · injection e' with e'; subst e'
      rw [← flat_drop Al.L 2 Al.len, List.getElem?_drop] at hj
      rw [add_add]
      exact h' _ u hj
theorem AlAt.keepR {w w' : World} {l : List Al} {A : Option Addr} {c : Nat} (h : AlAt w l A c) (hk : ∀ ad, A = some ad → w'.heap[ad.block]? = w.heap[ad.block]?) : AlAt w' l A c := by
  refine ⟨h.len, h.cap, h.nil, ?_⟩
  rcases h.rd with h0 | ⟨ad, e, hc⟩
  · exact .inl h0
  · refine .inr ⟨ad, e, fun j u hj => ?_⟩
    have q := World.cell?_of_block (w := w) (w' := w') (a := ad.add j) (by rw [block_add]; exact hk ad e)
    rw [q]
    exact hc j u hj
end Go.Proofs.Ytofpalmghdapkaa

/- Contracts of the document's own answers for package wheel: When, Drop, Set. -/
namespace Go.Proofs.Ytofpalmghdapkaa
open Go.ChangeShapes Go.WideShapes Go.ChangeAt Go.RowKit
set_option linter.unusedVariables false
set_option linter.unusedSimpArgs false

/-- a struct of two cells and a number, as two results. -/
theorem results_ct11 {P : Program} {fn : Func} {p u : Tmp} {t1 : TypeId} (h : fn.results = #[.cell p t1, .tmp u]) (tmps : Array Value) (w : World) (g1 : Nat) (c1 : List Value) (d1 : TypeDesc)
    (hp : tmps.getD p undef = .pointer (some ⟨g1, 0, none⟩)) (h1 : Bxo w g1 t1 c1)
    (u1 : P.underlying t1 = some d1) (r1 : (match d1 with | .struct _ | .array _ _ => true | _ => false) = true) (i1 : (P.info? t1).map (·.size) = some c1.length) :
    (results fn tmps).run P w = .ok (.tuple #[.agg c1.toArray, tmps.getD u undef]) w := by
  have hp' : tmps[p]?.getD undef = .pointer (some ⟨g1, 0, none⟩) := by simpa using hp
  have e1 := run_loadVar_row (P := P) w g1 t1 t1 c1.toArray (0, 0) d1 h1 u1 r1 (by simpa using i1)
  simp [results, h, hp', asAddr, e1]
def WhPost2 (w : World) (A0 : Option Addr) (q : Wh × Int) (e : Ending) (w' : World) : Prop := ∃ A c, e = .returned (.tuple #[whV q.1 A c, .int .i64 q.2]) ∧ AlAt w' q.1.list A c ∧ Below w.heap.size w w' ∧ (A = A0 ∨ ∀ ad, A = some ad → w.heap.size ≤ ad.block ∧ ad.block < w'.heap.size)
theorem findI_none {l : List Al} {n : Int} (h : findH l n = none) : findI l n = -1 := by unfold findI; rw [h]
theorem findI_some {l : List Al} {n : Int} {i : Nat} (h : findH l n = some i) : findI l n = (i : Int) := by unfold findI; rw [h]
end Go.Proofs.Ytofpalmghdapkaa

/- Contracts of the document's own answers for package wheel: Tick. -/
namespace Go.Proofs.Ytofpalmghdapkaa
open Go.ChangeShapes Go.WideShapes Go.ChangeAt Go.RowKit
set_option linter.unusedVariables false
set_option linter.unusedSimpArgs false

/-- the least that is due among the first k. -/
structure BestI (l : List Al) (now : Int) (k : Nat) (b : Int) : Prop where
  none : b < 0 → b = -1 ∧ ∀ j, j < k → now < (atA l j).at_
  some : 0 ≤ b → ∃ p : Nat, b = (p : Int) ∧ p < k ∧ (atA l p).at_ ≤ now ∧ ∀ j, j < k → (atA l j).at_ ≤ now → leA (atA l p) (atA l j) = true
theorem BestI.zero (l : List Al) (now : Int) : BestI l now 0 (-1) := ⟨fun _ => ⟨rfl, fun j h => by omega⟩, fun h => by omega⟩
theorem BestI.late {l : List Al} {now : Int} {k : Nat} {b : Int} (h : BestI l now k b) (hk : now < (atA l k).at_) : BestI l now (k + 1) b := by
  refine ⟨fun hb => ⟨(h.none hb).1, fun j hj => ?_⟩, fun hb => ?_⟩
  · by_cases e : j = k
    · rw [e]; exact hk
    · exact (h.none hb).2 j (by omega)
  · obtain ⟨p, e, hp, h1, h2⟩ := h.some hb
    refine ⟨p, e, by omega, h1, fun j hj hd => ?_⟩
    by_cases e : j = k
    · rw [e] at hd; omega
    · exact h2 j (by omega) hd
theorem BestI.first {l : List Al} {now : Int} {k : Nat} (h : BestI l now k (-1)) (hk : (atA l k).at_ ≤ now) : BestI l now (k + 1) (k : Nat) := by
  refine ⟨fun hb => by omega, fun _ => ⟨k, rfl, by omega, hk, fun j hj hd => ?_⟩⟩
  by_cases e : j = k
  · rw [e, leA_iff]; omega
  · have := (h.none (by omega)).2 j (by omega)
    omega
theorem BestI.less {l : List Al} {now : Int} {k p : Nat} (h : BestI l now k (p : Nat)) (hk : (atA l k).at_ ≤ now) (hl : ltA (atA l k) (atA l p) = true) : BestI l now (k + 1) (k : Nat) := by
  refine ⟨fun hb => by omega, fun _ => ⟨k, rfl, by omega, hk, fun j hj hd => ?_⟩⟩
  by_cases e : j = k
  · rw [e, leA_iff]; omega
  · obtain ⟨p', e', hp, h1, h2⟩ := h.some (by omega)
    obtain rfl : p = p' := by omega
    exact leA_trans _ _ _ (lt_le hl) (h2 j (by omega) hd)
theorem BestI.more {l : List Al} {now : Int} {k p : Nat} (h : BestI l now k (p : Nat)) (hl : ltA (atA l k) (atA l p) = false) : BestI l now (k + 1) (p : Nat) := by
  refine ⟨fun hb => by omega, fun _ => ?_⟩
  obtain ⟨p', e', hp, h1, h2⟩ := h.some (by omega)
  obtain rfl : p = p' := by omega
  refine ⟨p, rfl, by omega, h1, fun j hj hd => ?_⟩
  by_cases e : j = k
  · rw [e]; exact not_lt hl
  · exact h2 j (by omega) hd
theorem BestI.end0 {l : List Al} {now : Int} {b : Int} (h : BestI l now l.length b) (hb : b < 0) : b = -1 ∧ dueA l now = [] ∧ leftA l now = l := by
  obtain ⟨h1, h2⟩ := h.none hb
  refine ⟨h1, due_nil fun a ha => ?_⟩
  obtain ⟨j, hj, rfl⟩ := List.getElem_of_mem ha
  have := h2 j hj
  rwa [atA_get hj] at this
theorem BestI.end1 {l : List Al} {now : Int} {p : Nat} (h : BestI l now l.length (p : Nat)) : p < l.length ∧ dueA l now = atA l p :: dueA (l.take p ++ l.drop (p + 1)) now ∧ leftA (l.take p ++ l.drop (p + 1)) now = leftA l now := by
  obtain ⟨p', e', hp, h1, h2⟩ := h.some (by omega)
  obtain rfl : p = p' := by omega
  have hs := cut_split hp
  have hall : ∀ a ∈ l, a.at_ ≤ now → leA (atA l p) a = true := fun a ha hd => by
    obtain ⟨j, hj, rfl⟩ := List.getElem_of_mem ha
    have := h2 j hj
    rw [atA_get hj] at this
    exact this hd
  rw [atA_get hp] at h1 hall ⊢
  refine ⟨hp, ?_, ?_⟩
  · have := due_cons (l1 := l.take p) (l2 := l.drop (p + 1)) (b := l[p]) (now := now) h1 (fun a ha => hall a (List.mem_of_mem_take ha)) (fun a ha => hall a (List.mem_of_mem_drop ha))
    rw [← hs] at this
    exact this
  · have := left_drop (l1 := l.take p) (l2 := l.drop (p + 1)) (b := l[p]) (now := now) h1
    rw [← hs] at this
    exact this.symm
theorem lt_iff (a b : Al) : ltA a b = true ↔ a.at_ < b.at_ ∨ (a.at_ = b.at_ ∧ a.num < b.num) := by
  unfold ltA
  have h1 := leA_iff b a
  cases h : leA b a
  · rw [h] at h1
    simp at h1
    simp
    omega
  · rw [h] at h1
    simp at h1
    simp
    omega
theorem lt_no (a b : Al) (h : ¬ (a.at_ < b.at_ ∨ (a.at_ = b.at_ ∧ a.num < b.num))) : ltA a b = false := by
  cases hl : ltA a b
  · rfl
  · exact absurd ((lt_iff a b).1 hl) h
theorem results_ctt11 {P : Program} {fn : Func} {p u v : Tmp} {t1 : TypeId} (h : fn.results = #[.cell p t1, .tmp u, .tmp v]) (tmps : Array Value) (w : World) (g1 : Nat) (c1 : List Value) (d1 : TypeDesc)
    (hp : tmps.getD p undef = .pointer (some ⟨g1, 0, none⟩)) (h1 : Bxo w g1 t1 c1)
    (u1 : P.underlying t1 = some d1) (r1 : (match d1 with | .struct _ | .array _ _ => true | _ => false) = true) (i1 : (P.info? t1).map (·.size) = some c1.length) :
    (results fn tmps).run P w = .ok (.tuple #[.agg c1.toArray, tmps.getD u undef, tmps.getD v undef]) w := by
  have hp' : tmps[p]?.getD undef = .pointer (some ⟨g1, 0, none⟩) := by simpa using hp
  have e1 := run_loadVar_row (P := P) w g1 t1 t1 c1.toArray (0, 0) d1 h1 u1 r1 (by simpa using i1)
  simp [results, h, hp', asAddr, e1]
def lenV : Value → Nat
  | .slice _ n _ => n
  | _ => 0
theorem info_i1 : (Try.prog.info? 3).map (·.size) = some 1 := by kernel_rfl
theorem info_iz : (Try.prog.info? 3).map (fun i => (i.zero, i.size, i.bytes)) = some (some (.int .i64 0), 1, 8) := by kernel_rfl
theorem grownB {w w' : World} {row : Option Nat} {B : Nat} (h : w.grownBy w' row) (hr : ∀ g, row = some g → B ≤ g) (hs : B ≤ w.heap.size) : Below B w w' :=
  ⟨h.os, h.tape, h.output, h.size, fun b hb => h.block b (by omega) (fun e => by have := hr b e.symm; omega)⟩
/-- what Tick hands back. -/
def TkPost (w : World) (A0 : Option Addr) (q : Wh × List Int × Int) (e : Ending) (w' : World) : Prop := ∃ A c B d, e = .returned (.tuple #[whV q.1 A c, .slice B q.2.1.length d, .int .i64 q.2.2]) ∧ AlAt w' q.1.list A c ∧ InsAt .i64 w' q.2.1 B d ∧ Below w.heap.size w w' ∧ (A = A0 ∨ ∀ ad, A = some ad → w.heap.size ≤ ad.block ∧ ad.block < w'.heap.size) ∧ ∀ ad, B = some ad → w.heap.size ≤ ad.block ∧ ad.block < w'.heap.size
end Go.Proofs.Ytofpalmghdapkaa
