/- A wheel as a heap in a struct, its places in a map: New, Set, Drop, When, Waits, Now. -/
import Derived.Test.YtebmomanpkmloaaWheelG5
namespace Go.Proofs.Ytebmomanpkmloaa
open Go.ChangeShapes Go.WideShapes Go.ChangeAt Go.RowKit Go.Maps
set_option linter.unusedVariables false
set_option linter.unusedSimpArgs false

theorem nilLook {n : Int} (hn : (Lit.int .i64 n).wf = true) (w : World) : (Instr.lookup 55 (.map none) (.int .i64 n) true).run Try.prog w = .ok (.tuple #[.int .i64 0, .bool false]) w := by
  simpa using look_nil (w := w) true keyedI Try.underlying55 (zeroI w) (keyI hn)
/-- a wheel that has had no alarm yet: it has no map. -/
structure WF (w : World) (g : Nat) (x : Wh) (F : Nat → Prop) : Prop where
  box : Bxo w g 59 [.slice none 0 0, .map none, .int .i64 x.now]
  empty : x.list = []
  blocks : ∀ b, F b ↔ b = g
  right : RightW x
/-- a wheel in memory. -/
structure WR (w : World) (g : Nat) (l : List Al) (x : Wh) (F : Nat → Prop) (A : Option Addr) (c mb : Nat) : Prop where
  mem : GR w g l x.now F A c mb
  perm : l.Perm x.list
  heap : HeapA l l.length
  right : RightW x
def WRep (w : World) (ad : Addr) (x : Wh) (F : Nat → Prop) : Prop := ∃ g, ad = ⟨g, 0, none⟩ ∧ (WF w g x F ∨ ∃ l A c mb, WR w g l x F A c mb)
section
variable {w : World} {g : Nat} {l : List Al} {x : Wh} {F : Nat → Prop} {A : Option Addr} {c mb : Nat}
/-- what of a wheel in memory has turned, told anew. -/
theorem WRep.of {l' : List Al} {x' : Wh} {w' : World} {F' : Nat → Prop} (h : (heapG g x'.now).Rep w' l' F') (p : l'.Perm x'.list) (hp : HeapA l' l'.length) (r : RightW x') : WRep w' ⟨g, 0, none⟩ x' F' := by
  obtain ⟨A', c', mb', h⟩ := h
  exact ⟨g, rfl, .inr ⟨l', A', c', mb', h, p, hp, r⟩⟩
set_option maxRecDepth 100000 in
set_option maxHeartbeats 4000000 in
theorem gwhen (h : WR w g l x F A c mb) (n : Int) (hn : I64 n) (q : Int × Bool) (hq : whenH x n = q) :
    Calls Try.prog 16 #[.pointer (some ⟨g, 0, none⟩), .int .i64 n] w fun e w' => e = .returned (.tuple #[.int .i64 q.1, .bool q.2]) ∧ Below w.heap.size w w' := by
  have hm := h.mem
  have HP := Go.Lib.hid hm.map
  have c0 := hm.box.cell 0 rfl
  have c1 := hm.box.cell 1 rfl
  have KX := Go.Lib.hid (wfI hn.1 hn.2)
  cases hf : findH l n with
  | none =>
    have HQ : Hid (q = (0, false)) := Go.Lib.hid (by rw [← hq]; exact when_none h.perm hf)
    have hv : placeV (findH l) n = .tuple #[.int .i64 0, .bool false] := by unfold placeV; rw [hf]; rfl
    clear hm h hq hf
    go_enter Try.func16, Try.ntmps16
    go_wp2_with (at_lookup; refine wpList_place HP.out rfl _ _ rfl n KX.out rfl rfl ?_; rw [hv])
    go_ret2
    exact ⟨by rw [HQ.out]; rfl, Below.refl _ _⟩
  | some i =>
    obtain ⟨hi, _⟩ := find_at hm.once hf
    have hw := when_some h.perm h.right.once hf
    obtain ⟨r, rfl, _, hci⟩ := hm.cell hi
    have hcx := hci w rfl
    obtain ⟨a, ha⟩ : ∃ a, atA l i = a := ⟨_, rfl⟩
    rw [ha] at hcx hw
    have HQ : Hid (q = (a.at_, true)) := Go.Lib.hid (by rw [← hq]; exact hw)
    have hv : placeV (findH l) n = .tuple #[.int .i64 (i : Int), .bool true] := by unfold placeV; rw [hf]; rfl
    obtain ⟨m, hm'⟩ : ∃ m, l.length = m := ⟨_, rfl⟩
    rw [hm'] at c0 hi
    have d1 := hcx 1 _ rfl
    rw [Addr.add_mid] at d1
    have i1 : (0 : Int) ≤ (i : Int) := by omega
    have i2 : (i : Int) < (m : Int) := by omega
    clear hm h hq hf hci hcx hw ha hm'
    go_enter Try.func16, Try.ntmps16
    go_wp2_with (at_lookup; refine wpList_place HP.out rfl _ _ rfl n KX.out rfl rfl ?_; rw [hv])
    go_ret2
    exact ⟨by rw [HQ.out]; rfl, Below.refl _ _⟩
set_option maxHeartbeats 400000 in
theorem gwaits (h : WR w g l x F A c mb) (n : Int) (hn : (x.list.length : Int) = n) :
    Calls Try.prog 18 #[.pointer (some ⟨g, 0, none⟩)] w fun e w' => e = .returned (.int .i64 n) ∧ Below w.heap.size w w' := by
  have c0 := h.mem.box.cell 0 rfl
  rw [h.perm.length_eq] at c0
  subst hn
  clear h
  go_enter Try.func18, Try.ntmps18
  go_wp2
  go_ret
  exact ⟨rfl, Below.refl _ _⟩
set_option maxHeartbeats 400000 in
theorem gnow (h : WR w g l x F A c mb) (n : Int) (hn : x.now = n) :
    Calls Try.prog 19 #[.pointer (some ⟨g, 0, none⟩)] w fun e w' => e = .returned (.int .i64 n) ∧ Below w.heap.size w w' := by
  have c2 := h.mem.box.cell 2 rfl
  rw [hn] at c2
  clear h
  go_enter Try.func19, Try.ntmps19
  go_wp2
  go_ret
  exact ⟨rfl, Below.refl _ _⟩
set_option maxRecDepth 100000 in
set_option maxHeartbeats 4000000 in
theorem gdrop (h : WR w g l x F A c mb) (n : Int) (hn : I64 n) (q : Wh × Int) (hq : dropH x n = q) :
    Calls Try.prog 12 #[.pointer (some ⟨g, 0, none⟩), .int .i64 n] w fun e w' => ∃ F', e = .returned (.int .i64 q.2) ∧ WRep w' ⟨g, 0, none⟩ q.1 F' ∧ Newer w F F' ∧ Moves w w' F := by
  have hm := h.mem
  have HP := Go.Lib.hid hm.map
  have c1 := hm.box.cell 1 rfl
  have KX := Go.Lib.hid (wfI hn.1 hn.2)
  have HH := Go.Lib.hid h
  cases hf : findH l n with
  | none =>
    have HQ : Hid (q = (x, 9)) := Go.Lib.hid (by rw [← hq]; exact drop_none h.perm hf)
    have hv : placeV (findH l) n = .tuple #[.int .i64 0, .bool false] := by unfold placeV; rw [hf]; rfl
    clear hm h hq hf
    go_enter Try.func12, Try.ntmps12
    go_wp2_with (at_lookup; refine wpList_place HP.out rfl _ _ rfl n KX.out rfl rfl ?_; rw [hv])
    go_ret
    exact ⟨F, by rw [HQ.out]; rfl, by rw [HQ.out]; exact ⟨g, rfl, .inr ⟨l, A, c, mb, HH.out⟩⟩, fun b f => .inl f, Moves.refl _ _⟩
  | some i =>
    obtain ⟨hi, _⟩ := find_at hm.once hf
    have HR : Hid ((heapG g x.now).Rep w l F) := Go.Lib.hid ⟨A, c, mb, hm⟩
    have hv : placeV (findH l) n = .tuple #[.int .i64 (i : Int), .bool true] := by unfold placeV; rw [hf]; rfl
    have HF := Go.Lib.hid hf
    have HQ := Go.Lib.hid hq
    obtain ⟨a, ha⟩ : ∃ a, atA l i = a := ⟨_, rfl⟩
    have HA := Go.Lib.hid ha
    clear hm h hq hf ha
    go_enter Try.func12, Try.ntmps12
    go_wp2_with (first
      | (at_lookup; refine wpList_place HP.out rfl _ _ rfl n KX.out rfl rfl ?_; rw [hv])
      | (go_at_call 24; refine (gtake HR.out i hi HH.out.heap a HA.out).mono ?_; rintro e w1 ⟨rfl, l1, r1, m1, p1, h1⟩; have HR1 := Go.Lib.hid r1; have HM1 := Go.Lib.hid m1; have HP1 := Go.Lib.hid p1; have HH1 := Go.Lib.hid h1; clear r1 m1 p1 h1; dsimp only))
    go_ret
    obtain ⟨X, hX, hp⟩ := drop_some HH.out.perm HH.out.right.once HF.out (by rw [HA.out]; exact HP1.out)
    have hr := HH.out.right.drop n
    rw [HQ.out] at hX hr
    rw [hX] at hr ⊢
    exact ⟨F, rfl, WRep.of (x' := ⟨X, x.now⟩) HR1.out hp HH1.out hr, fun b f => .inl f, HM1.out⟩
set_option maxRecDepth 100000 in
set_option maxHeartbeats 4000000 in
theorem gnew (w : World) : Calls Try.prog 8 #[] w fun e w' => ∃ ad F, e = .returned (.pointer (some ad)) ∧ WRep w' ad wh0 F ∧ (∀ b, F b → w.heap.size ≤ b) ∧ Below w.heap.size w w' := by
  have y1 : Below w.heap.size w (w.alloc (.cells #[.slice none 0 0, .map none, .int .i64 0] 59)) := (Below.refl _ _).alloc (Nat.le_refl _) _
  have hbx := Bxo.made w 59 [.slice none 0 0, .map none, .int .i64 0]
  go_enter Try.func8, Try.ntmps8
  go_wp2
  go_ret
  exact ⟨⟨w.heap.size, 0, none⟩, fun b => b = w.heap.size, rfl, ⟨w.heap.size, rfl, .inl ⟨hbx, rfl, fun b => Iff.rfl, right_wh0⟩⟩, fun b e => by omega, y1⟩
/-- what Set hands back. -/
def GSet (w : World) (g : Nat) (F : Nat → Prop) (q : Wh × Int) (e : Ending) (w' : World) : Prop := ∃ F', e = .returned (.int .i64 q.2) ∧ WRep w' ⟨g, 0, none⟩ q.1 F' ∧ Newer w F F' ∧ Moves w w' F
theorem GSet.same {q : Wh × Int} {f : Int} (hq : q = (x, f)) (h : WR w g l x F A c mb) : GSet w g F q (.returned (.int .i64 f)) w := ⟨F, by rw [hq], by rw [hq]; exact ⟨g, rfl, .inr ⟨l, A, c, mb, h⟩⟩, fun b f => .inl f, Moves.refl _ _⟩
theorem GSet.moved {q : Wh × Int} {X : Wh} {F' : Nat → Prop} {w' : World} (hq : q = (X, 0)) (h : WRep w' ⟨g, 0, none⟩ X F') (hn : Newer w F F') (hm : Moves w w' F) : GSet w g F q (.returned (.int .i64 0)) w' := ⟨F', by rw [hq], by rw [hq]; exact h, hn, hm⟩
set_option maxRecDepth 100000 in
set_option maxHeartbeats 8000000 in
theorem gset (h : WR w g l x F A c mb) (n t : Int) (q : Wh × Int) (hq : setH x n t = q) :
    Calls Try.prog 10 #[.pointer (some ⟨g, 0, none⟩), .int .i64 n, .int .i64 t] w (GSet w g F q) := by
  have hm := h.mem
  have HP := Go.Lib.hid hm.map
  have c0 := hm.box.cell 0 rfl
  have c1 := hm.box.cell 1 rfl
  have c2 := hm.box.cell 2 rfl
  have HH := Go.Lib.hid h
  have n0' := h.right.now0
  by_cases h0 : n < 0
  · have HQ : Hid (q = (x, 1)) := Go.Lib.hid (by rw [← hq]; unfold setH; rw [if_pos (by omega)])
    clear hm h hq
    go_enter Try.func10, Try.ntmps10
    go_wp2
    go_ret
    exact GSet.same HQ.out HH.out
  by_cases h1 : 2147483647 < n
  · have HQ : Hid (q = (x, 1)) := Go.Lib.hid (by rw [← hq]; unfold setH; rw [if_pos (by omega)])
    clear hm h hq
    go_enter Try.func10, Try.ntmps10
    go_wp2
    go_ret
    exact GSet.same HQ.out HH.out
  by_cases h2 : t < 0
  · have HQ : Hid (q = (x, 1)) := Go.Lib.hid (by rw [← hq]; unfold setH; rw [if_pos (by omega)])
    clear hm h hq
    go_enter Try.func10, Try.ntmps10
    go_wp2
    go_ret
    exact GSet.same HQ.out HH.out
  by_cases h3 : 1099511627776 < t
  · have HQ : Hid (q = (x, 1)) := Go.Lib.hid (by rw [← hq]; unfold setH; rw [if_pos (by omega)])
    clear hm h hq
    go_enter Try.func10, Try.ntmps10
    go_wp2
    go_ret
    exact GSet.same HQ.out HH.out
  by_cases h5 : t ≤ x.now
  · have HQ : Hid (q = (x, 14)) := Go.Lib.hid (by rw [← hq]; unfold setH; rw [if_neg (by omega), if_pos h5])
    clear hm h hq
    go_enter Try.func10, Try.ntmps10
    go_wp2
    go_ret
    exact GSet.same HQ.out HH.out
  have HB : Hid (0 ≤ n ∧ n ≤ 2147483647 ∧ x.now < t ∧ t ≤ 1099511627776) := Go.Lib.hid (by omega)
  have KX := Go.Lib.hid (wfI (z := n) (by omega) (by omega))
  have HQ := Go.Lib.hid hq
  cases hf : findH l n with
  | none =>
    have hv : placeV (findH l) n = .tuple #[.int .i64 0, .bool false] := by unfold placeV; rw [hf]; rfl
    have HF := Go.Lib.hid hf
    by_cases h6 : 256 ≤ l.length
    · have HQ : Hid (q = (x, 8)) := Go.Lib.hid (by rw [← hq]; exact set_full h.perm HB.out n0' hf h6)
      have hsz : l.length = 256 := by have := hm.size; omega
      rw [hsz] at c0
      clear hm h hq hf h6 hsz
      go_enter Try.func10, Try.ntmps10
      go_wp2_with (at_lookup; refine wpList_place HP.out rfl _ _ rfl n KX.out rfl rfl ?_; rw [hv])
      go_ret
      exact GSet.same HQ.out HH.out
    · have HM := Go.Lib.hid hm
      have HL : Hid (l.length < 256) := Go.Lib.hid (by omega)
      obtain ⟨m, hm'⟩ : ∃ m, l.length = m := ⟨_, rfl⟩
      rw [hm'] at c0 h6
      have te : ((m : Int) == 256) = false := by simp; omega
      clear hm h hq hf hm'
      go_enter Try.func10, Try.ntmps10
      go_wp2_with (first
        | (at_lookup; refine wpList_place HP.out rfl _ _ rfl n KX.out rfl rfl ?_; rw [hv])
        | (go_at_call 23; refine (gput HM.out HH.out.heap n t ⟨HB.out.1, HB.out.2.1⟩ HL.out (find_none HF.out)).mono ?_; rintro e w1 ⟨rfl, F1, l1, r1, n1, m1, p1, h1⟩; have HR1 := Go.Lib.hid r1; have HN1 := Go.Lib.hid n1; have HM1 := Go.Lib.hid m1; have HP1 := Go.Lib.hid p1; have HH1 := Go.Lib.hid h1; clear r1 n1 m1 p1 h1; dsimp only))
      go_ret
      obtain ⟨X, hX, hp⟩ := set_new HH.out.perm HB.out n0' HF.out HL.out HP1.out
      have hr := HH.out.right.set n t
      rw [HQ.out] at hX hr
      rw [hX] at hr
      exact GSet.moved hX (WRep.of (x' := ⟨X, x.now⟩) HR1.out hp HH1.out hr) HN1.out HM1.out
  | some i =>
    obtain ⟨hi, hin⟩ := find_at hm.once hf
    have hv : placeV (findH l) n = .tuple #[.int .i64 (i : Int), .bool true] := by unfold placeV; rw [hf]; rfl
    have HF := Go.Lib.hid hf
    have HM := Go.Lib.hid hm
    have HIN := Go.Lib.hid hin
    clear hm h hq hf hin
    go_enter Try.func10, Try.ntmps10
    go_wp2_with (first
      | (at_lookup; refine wpList_place HP.out rfl _ _ rfl n KX.out rfl rfl ?_; rw [hv])
      | (go_at_call 22; refine (gmove HM.out i hi HH.out.heap n t HIN.out ⟨HB.out.1, HB.out.2.1⟩).mono ?_; rintro e w3 ⟨rfl, l3, r3, m3, p3, h3⟩; have HR3 := Go.Lib.hid r3; have HM3 := Go.Lib.hid m3; have HP3 := Go.Lib.hid p3; have HH3 := Go.Lib.hid h3; clear r3 m3 p3 h3; dsimp only))
    go_ret
    obtain ⟨X, hX, hp⟩ := set_again HH.out.perm HH.out.right.once HB.out n0' HF.out HP3.out
    have hr' := HH.out.right.set n t
    rw [HQ.out] at hX hr'
    rw [hX] at hr'
    exact GSet.moved hX (WRep.of (x' := ⟨X, x.now⟩) HR3.out hp HH3.out hr') (fun b f => .inl f) HM3.out
end
/-! a wheel that has had no alarm yet. -/
section
variable {w : World} {g : Nat} {x : Wh} {F : Nat → Prop}
theorem WF.keep {w' : World} (h : WF w g x F) (hb : w'.heap[g]? = w.heap[g]?) : WF w' g x F := ⟨hb.trans h.box, h.empty, h.blocks, h.right⟩
set_option maxHeartbeats 4000000 in
theorem fwhen (h : WF w g x F) (n : Int) (hn : I64 n) (q : Int × Bool) (hq : whenH x n = q) :
    Calls Try.prog 16 #[.pointer (some ⟨g, 0, none⟩), .int .i64 n] w fun e w' => e = .returned (.tuple #[.int .i64 q.1, .bool q.2]) ∧ Below w.heap.size w w' := by
  have c1 := h.box.cell 1 rfl
  have hl := fun w => nilLook (n := n) (wfI hn.1 hn.2) w
  have HQ : Hid (q = (0, false)) := Go.Lib.hid (by rw [← hq]; unfold whenH; rw [h.empty]; rfl)
  clear h hq
  go_enter Try.func16, Try.ntmps16
  go_wp2
  go_ret2
  exact ⟨by rw [HQ.out]; rfl, Below.refl _ _⟩
set_option maxHeartbeats 400000 in
theorem fwaits (h : WF w g x F) (n : Int) (hn : (x.list.length : Int) = n) :
    Calls Try.prog 18 #[.pointer (some ⟨g, 0, none⟩)] w fun e w' => e = .returned (.int .i64 n) ∧ Below w.heap.size w w' := by
  have c0 := h.box.cell 0 rfl
  have e0 : n = 0 := by rw [← hn, h.empty]; rfl
  clear hn
  subst e0
  clear h
  go_enter Try.func18, Try.ntmps18
  go_wp2
  go_ret
  exact ⟨rfl, Below.refl _ _⟩
set_option maxHeartbeats 400000 in
theorem fnow (h : WF w g x F) (n : Int) (hn : x.now = n) :
    Calls Try.prog 19 #[.pointer (some ⟨g, 0, none⟩)] w fun e w' => e = .returned (.int .i64 n) ∧ Below w.heap.size w w' := by
  have c2 := h.box.cell 2 rfl
  rw [hn] at c2
  clear h
  go_enter Try.func19, Try.ntmps19
  go_wp2
  go_ret
  exact ⟨rfl, Below.refl _ _⟩
set_option maxHeartbeats 4000000 in
theorem fdrop (h : WF w g x F) (n : Int) (hn : I64 n) (q : Wh × Int) (hq : dropH x n = q) :
    Calls Try.prog 12 #[.pointer (some ⟨g, 0, none⟩), .int .i64 n] w fun e w' => ∃ F', e = .returned (.int .i64 q.2) ∧ WRep w' ⟨g, 0, none⟩ q.1 F' ∧ Newer w F F' ∧ Moves w w' F := by
  have c1 := h.box.cell 1 rfl
  have hl := fun w => nilLook (n := n) (wfI hn.1 hn.2) w
  have HH := Go.Lib.hid h
  have HQ : Hid (q = (x, 9)) := Go.Lib.hid (by rw [← hq]; unfold dropH; rw [h.empty]; rfl)
  clear h hq
  go_enter Try.func12, Try.ntmps12
  go_wp2
  go_ret
  exact ⟨F, by rw [HQ.out]; rfl, by rw [HQ.out]; exact ⟨g, rfl, .inl HH.out⟩, fun b f => .inl f, Moves.refl _ _⟩
theorem GSet.sameF {q : Wh × Int} {f : Int} (hq : q = (x, f)) (h : WF w g x F) : GSet w g F q (.returned (.int .i64 f)) w := ⟨F, by rw [hq], by rw [hq]; exact ⟨g, rfl, .inl h⟩, fun b f => .inl f, Moves.refl _ _⟩
set_option maxRecDepth 100000 in
set_option maxHeartbeats 8000000 in
theorem fset (h : WF w g x F) (n t : Int) (q : Wh × Int) (hq : setH x n t = q) :
    Calls Try.prog 10 #[.pointer (some ⟨g, 0, none⟩), .int .i64 n, .int .i64 t] w (GSet w g F q) := by
  have c0 := h.box.cell 0 rfl
  have c1 := h.box.cell 1 rfl
  have c2 := h.box.cell 2 rfl
  have HH := Go.Lib.hid h
  have n0' := h.right.now0
  by_cases h0 : n < 0
  · have HQ : Hid (q = (x, 1)) := Go.Lib.hid (by rw [← hq]; unfold setH; rw [if_pos (by omega)])
    clear h hq
    go_enter Try.func10, Try.ntmps10
    go_wp2
    go_ret
    exact GSet.sameF HQ.out HH.out
  by_cases h1 : 2147483647 < n
  · have HQ : Hid (q = (x, 1)) := Go.Lib.hid (by rw [← hq]; unfold setH; rw [if_pos (by omega)])
    clear h hq
    go_enter Try.func10, Try.ntmps10
    go_wp2
    go_ret
    exact GSet.sameF HQ.out HH.out
  by_cases h2 : t < 0
  · have HQ : Hid (q = (x, 1)) := Go.Lib.hid (by rw [← hq]; unfold setH; rw [if_pos (by omega)])
    clear h hq
    go_enter Try.func10, Try.ntmps10
    go_wp2
    go_ret
    exact GSet.sameF HQ.out HH.out
  by_cases h3 : 1099511627776 < t
  · have HQ : Hid (q = (x, 1)) := Go.Lib.hid (by rw [← hq]; unfold setH; rw [if_pos (by omega)])
    clear h hq
    go_enter Try.func10, Try.ntmps10
    go_wp2
    go_ret
    exact GSet.sameF HQ.out HH.out
  by_cases h5 : t ≤ x.now
  · have HQ : Hid (q = (x, 14)) := Go.Lib.hid (by rw [← hq]; unfold setH; rw [if_neg (by omega), if_pos h5])
    clear h hq
    go_enter Try.func10, Try.ntmps10
    go_wp2
    go_ret
    exact GSet.sameF HQ.out HH.out
  have HB : Hid (0 ≤ n ∧ n ≤ 2147483647 ∧ x.now < t ∧ t ≤ 1099511627776) := Go.Lib.hid (by omega)
  have hl := fun w => nilLook (n := n) (wfI (z := n) (by omega) (by omega)) w
  have HQ := Go.Lib.hid hq
  have HR := Go.Lib.hid (h.right.set n t)
  have HX := Go.Lib.hid h.box
  have HFG : Hid (F g) := Go.Lib.hid ((h.blocks g).2 rfl)
  have HP : Hid (([] : List Al).Perm x.list) := Go.Lib.hid (by rw [h.empty])
  clear h hq
  go_enter Try.func10, Try.ntmps10
  go_wp2_with (go_at_call 23; refine (gput0 HX.out HFG.out n t ⟨HB.out.1, HB.out.2.1⟩).mono ?_; rintro e w1 ⟨rfl, F1, l1, r1, n1, m1, p1, h1⟩; have HR1 := Go.Lib.hid r1; have HN1 := Go.Lib.hid n1; have HM1 := Go.Lib.hid m1; have HP1 := Go.Lib.hid p1; have HH1 := Go.Lib.hid h1; clear r1 n1 m1 p1 h1; dsimp only)
  go_ret
  obtain ⟨X, hX, hp⟩ := set_new (l' := l1) HP.out HB.out n0' rfl (by decide) HP1.out
  have hr := HR.out
  rw [HQ.out] at hX hr
  rw [hX] at hr
  exact GSet.moved hX (WRep.of (x' := ⟨X, x.now⟩) HR1.out hp HH1.out hr) HN1.out HM1.out
end
end Go.Proofs.Ytebmomanpkmloaa
