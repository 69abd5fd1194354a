/- The library's heap over a list of alarms in memory: Push, Pop, Remove, Fix. -/
import Derived.Test.YtebmomanpkmloaaHeapD
namespace Go.Proofs.Ytebmomanpkmloaa
open Go.ChangeShapes Go.WideShapes Go.ChangeAt Go.RowKit
set_option linter.unusedVariables false
set_option linter.unusedSimpArgs false

/-- .. that can be told how many they are, put at the end, and taken from there. -/
structure HeapC2 (ad : Addr) extends HeapC ad where
  any_ : Al → Value
  len_ : ∀ {w l F}, Rep w l F → ∀ n : Nat, l.length = n → Calls Try.prog 46 #[.pointer (some ad)] w fun e w' => e = .returned (.int .i64 n) ∧ Below w.heap.size w w'
  push : ∀ {w l F}, Rep w l F → ∀ a : Al, 0 ≤ a.num ∧ a.num ≤ 2147483647 → l.length < 256 → (∀ b ∈ l, b.num ≠ a.num) → Calls Try.prog 49 #[.pointer (some ad), any_ a] w fun e w' => e = .returned (.tuple #[]) ∧ ∃ F', Rep w' (l ++ [a]) F' ∧ Newer w F F' ∧ Moves w w' F
  /-- the last one is taken from the list, but its place stands still. -/
  Cut : World → List Al → Nat → (Nat → Prop) → Prop
  pop : ∀ {w l F}, Rep w l F → ∀ (n : Nat) (v : Value), l.length = n + 1 → any_ (atA l n) = v → Calls Try.prog 48 #[.pointer (some ad)] w fun e w' => e = .returned v ∧ Cut w' l n F ∧ Moves w w' F
theorem meth_len (ad : Addr) (n : Nat) (w : World) : (method (n + 9) 71 (.pointer (some ad)) "Len").run Try.prog w = .ok (46, .pointer (some ad)) w := by kernel_rfl
theorem meth_push (ad : Addr) (n : Nat) (w : World) : (method (n + 9) 71 (.pointer (some ad)) "Push").run Try.prog w = .ok (49, .pointer (some ad)) w := by kernel_rfl
theorem meth_pop (ad : Addr) (n : Nat) (w : World) : (method (n + 9) 71 (.pointer (some ad)) "Pop").run Try.prog w = .ok (48, .pointer (some ad)) w := by kernel_rfl
theorem take_last {l : List Al} {n : Nat} (h : l.length = n + 1) : (atA l n :: l.take n).Perm l := by
  have hn : n < l.length := by omega
  have e : l = l.take n ++ [atA l n] := by
    have h1 := List.take_append_getElem hn
    rw [show n + 1 = l.length by omega, List.take_length] at h1
    rw [atA_get hn]
    exact h1.symm
  refine (List.perm_append_comm (l₁ := [atA l n])).trans ?_
  exact e ▸ List.Perm.refl _
theorem DownR.heap0 {ad : Addr} {K : HeapC ad} {l l' : List Al} {F : Nat → Prop} {n : Nat} {w w' : World} {b : Bool} (h : DownR K l F 0 n w w' b l') : HeapA l' n := by
  cases b
  · obtain ⟨e, hu⟩ := h.stood rfl
    rw [e]
    exact hu.top
  · exact h.went rfl
section
variable {ad : Addr} (K : HeapC2 ad)
set_option maxRecDepth 100000 in
set_option maxHeartbeats 4000000 in
theorem hfix (l : List Al) (F : Nat → Prop) (i n : Nat) (w : World) (h : K.Rep w l F) (hn : l.length = n) (hi : i < n) (hh : HoleA l n i) :
    Calls Try.prog 25 #[.iface 71 (.pointer (some ad)), .int .i64 i] w fun e w' => e = .returned (.tuple #[]) ∧ ∃ l', K.Rep w' l' F ∧ Moves w w' F ∧ OrdA n l l' ∧ HeapA l' n := by
  have HK := Go.Lib.hid h
  have HH := Go.Lib.hid hh
  have HN := Go.Lib.hid hn
  have hsz := K.size h
  rw [hn] at hsz
  clear h hh hn
  have mN := meth_len ad
  go_enter Try.func25, Try.ntmps25
  go_upto_if 9 with (first
    | (go_at_call 46; refine (K.len_ HK.out n HN.out).mono ?_; rintro e w1 ⟨rfl, y1⟩; have HK1 := Go.Lib.hid (HeapC.at HK.out y1); dsimp only)
    | (go_at_call 28; refine (hdown K.toHeapC l F i n w1 HK1.out (by rw [HN.out]; exact hi) (by rw [HN.out]; exact Nat.le_refl _) HH.out).mono ?_; rintro e w2 ⟨b, l2, rfl, hd⟩; have HD := Go.Lib.hid hd; clear hd; dsimp only))
  cases b
  · obtain ⟨e2, hu⟩ := HD.out.stood rfl
    subst e2
    have HU := Go.Lib.hid hu
    clear hu
    go_wp2_with (go_at_call 29; refine (hup K.toHeapC l2 F i n w2 HD.out.rep (by rw [HN.out]; exact Nat.le_refl _) hi HU.out).mono ?_; rintro e w3 ⟨rfl, l3, r3, m3, o3, p3⟩; dsimp only)
    go_end0
    exact ⟨rfl, l3, r3, (moves_below y1).trans (HD.out.moves.trans m3), o3, p3⟩
  · go_wp2
    go_end0
    exact ⟨rfl, l2, HD.out.rep, (moves_below y1).trans HD.out.moves, HD.out.ord, HD.out.went rfl⟩
set_option maxRecDepth 100000 in
set_option maxHeartbeats 4000000 in
theorem hpush (l : List Al) (F : Nat → Prop) (a : Al) (w : World) (h : K.Rep w l F) (ha : 0 ≤ a.num ∧ a.num ≤ 2147483647) (hn : l.length < 256) (ho : ∀ b ∈ l, b.num ≠ a.num) (hh : HeapA l l.length) :
    Calls Try.prog 26 #[.iface 71 (.pointer (some ad)), K.any_ a] w fun e w' => e = .returned (.tuple #[]) ∧ ∃ F' l', K.Rep w' l' F' ∧ Newer w F F' ∧ Moves w w' F ∧ l'.Perm (l ++ [a]) ∧ HeapA l' l'.length := by
  have HK := Go.Lib.hid h
  have HH := Go.Lib.hid hh
  have HO := Go.Lib.hid ho
  obtain ⟨v, hv⟩ : ∃ v, K.any_ a = v := ⟨_, rfl⟩
  have HV := Go.Lib.hid hv
  rw [hv]
  clear h hh ho hv
  have mN := meth_len ad
  have mP := meth_push ad
  obtain ⟨n, hln⟩ : ∃ n, l.length = n := ⟨_, rfl⟩
  have HL := Go.Lib.hid hln
  have HL2 : Hid ((l ++ [a]).length = n + 1) := Go.Lib.hid (by rw [List.length_append, hln]; rfl)
  rw [hln] at hn
  clear hln
  have e1 : IntKind.i64.wrap ((n : Int) + 1 - 1) = (n : Nat) := by rw [IntWalk.i64_in _ (by omega)]; omega
  go_enter Try.func26, Try.ntmps26
  go_wp2_with (first
    | (go_at_call 49; rw [← HV.out]; refine (K.push HK.out a ha (by rw [HL.out]; exact hn) HO.out).mono ?_; rintro e w1 ⟨rfl, F1, r1, n1, m1⟩; have HK1 := Go.Lib.hid r1; clear r1; dsimp only)
    | (go_at_call 46; refine (K.len_ HK1.out (n + 1) HL2.out).mono ?_; rintro e w2 ⟨rfl, y2⟩; have HK2 := Go.Lib.hid (HeapC.at HK1.out y2); dsimp only)
    | (go_at_call 29; refine (hup K.toHeapC (l ++ [a]) F1 n (n + 1) w2 HK2.out (by rw [HL2.out]; exact Nat.le_refl _) (by omega) (by have := HeapA.snoc HH.out a; rwa [HL.out] at this)).mono ?_; rintro e w3 ⟨rfl, l3, r3, m3, o3, p3⟩; dsimp only))
  go_end0
  have hl3 : l3.length = n + 1 := by rw [o3.len]; exact HL2.out
  exact ⟨rfl, F1, l3, r3, n1, m1.next n1 ((moves_below y2).trans m3), o3.perm, by rw [hl3]; exact p3⟩
set_option maxRecDepth 100000 in
set_option maxHeartbeats 4000000 in
theorem hremove (l : List Al) (F : Nat → Prop) (i : Nat) (v : Value) (w : World) (h : K.Rep w l F) (hi : i < l.length) (hh : HeapA l l.length) (hv : K.any_ (atA l i) = v) :
    Calls Try.prog 27 #[.iface 71 (.pointer (some ad)), .int .i64 i] w fun e w' => e = .returned v ∧ ∃ l' n, K.Cut w' l' n F ∧ Moves w w' F ∧ l'.length = n + 1 ∧ l'.Perm l ∧ atA l' n = atA l i ∧ HeapA l' n := by
  have HK := Go.Lib.hid h
  have HH := Go.Lib.hid hh
  have HV := Go.Lib.hid hv
  have hsz := K.size h
  clear h hh hv
  have mN := meth_len ad
  have mS := meth_swap ad
  have mP := meth_pop ad
  obtain ⟨n, hln⟩ : ∃ n, l.length = n + 1 := ⟨l.length - 1, by omega⟩
  have HL := Go.Lib.hid hln
  rw [hln] at hsz hi
  clear hln
  have e2 : IntKind.i64.wrap ((n : Int) + 1 - 1) = (n : Nat) := by rw [IntWalk.i64_in _ (by omega)]; omega
  by_cases hin : i = n
  · subst hin
    have t0 : ((i : Int) != (i : Int)) = false := by simp
    go_enter Try.func27, Try.ntmps27
    go_wp2_with (first
      | (go_at_call 46; refine (K.len_ HK.out (i + 1) HL.out).mono ?_; rintro e w1 ⟨rfl, y1⟩; have HK1 := Go.Lib.hid (HeapC.at HK.out y1); dsimp only)
      | (go_at_call 48; refine (K.pop HK1.out i v HL.out HV.out).mono ?_; rintro e w4 ⟨rfl, r4, m4⟩; have HK4 := Go.Lib.hid r4; clear r4; dsimp only))
    go_ret
    exact ⟨rfl, l, i, HK4.out, (moves_below y1).trans m4, HL.out, List.Perm.refl _, rfl, HH.out.less (by rw [HL.out]; omega)⟩
  · have hin2 : i < n := by omega
    have t0 : ((n : Int) != (i : Int)) = true := by simp; omega
    have HHole : Hid (HoleA (swA l i n) n i) := Go.Lib.hid ((by rw [← HL.out]; exact HH.out : HeapA l (n + 1)).swap (by rw [HL.out]; omega) (by omega))
    have HSL : Hid ((swA l i n).length = n + 1) := Go.Lib.hid (by rw [sw_len]; exact HL.out)
    have HSA : Hid (atA (swA l i n) n = atA l i) := Go.Lib.hid (by rw [sw_at (by rw [HL.out]; omega) (by rw [HL.out]; omega), if_pos rfl])
    have HSP : Hid ((swA l i n).Perm l) := Go.Lib.hid (sw_perm (by rw [HL.out]; omega) (by rw [HL.out]; omega))
    obtain ⟨l1, hl1⟩ : ∃ l1, swA l i n = l1 := ⟨_, rfl⟩
    rw [hl1] at HHole HSL HSA HSP
    have HL1 := Go.Lib.hid hl1
    clear hl1 hin
    go_enter Try.func27, Try.ntmps27
    go_upto_if 20 with (first
      | (go_at_call 46; refine (K.len_ HK.out (n + 1) HL.out).mono ?_; rintro e w1 ⟨rfl, y1⟩; have HK1 := Go.Lib.hid (HeapC.at HK.out y1); dsimp only)
      | (go_at_call 50; refine (K.swap HK1.out i n (by rw [HL.out]; omega) (by rw [HL.out]; omega)).mono ?_; rintro e w2 ⟨rfl, r2, m2⟩; rw [HL1.out] at r2; have HK2 := Go.Lib.hid r2; clear r2; dsimp only)
      | (go_at_call 28; refine (hdown K.toHeapC l1 F i n w2 HK2.out (by rw [HSL.out]; omega) (by rw [HSL.out]; omega) HHole.out).mono ?_; rintro e w3 ⟨b, l3, rfl, hd⟩; have HD := Go.Lib.hid hd; clear hd; have HT := Go.Lib.hid ((HD.out.ord.tail n (Nat.le_refl _)).trans HSA.out); have HL3 := Go.Lib.hid (HD.out.ord.len.trans HSL.out); dsimp only))
    cases b
    · obtain ⟨e2', hu⟩ := HD.out.stood rfl
      have HU : Hid (UpA l3 n i) := Go.Lib.hid (by rw [e2']; exact hu)
      clear hu e2'
      go_wp2_with (first
        | (go_at_call 29; refine (hup K.toHeapC l3 F i n w3 HD.out.rep (by rw [HL3.out]; omega) hin2 HU.out).mono ?_; rintro e w5 ⟨rfl, l5, r5, m5, o5, p5⟩; have HK5 := Go.Lib.hid r5; have HP := Go.Lib.hid p5; have HO5 := Go.Lib.hid o5; have HT5 := Go.Lib.hid ((o5.tail n (Nat.le_refl _)).trans HT.out); have HL5 := Go.Lib.hid (o5.len.trans HL3.out); clear r5 o5 p5; dsimp only)
        | (go_at_call 48; refine (K.pop HK5.out n v HL5.out (by rw [HT5.out]; exact HV.out)).mono ?_; rintro e w4 ⟨rfl, r4, m4⟩; have HK4 := Go.Lib.hid r4; clear r4; dsimp only))
      go_ret
      exact ⟨rfl, l5, n, HK4.out, (moves_below y1).trans (m2.trans (HD.out.moves.trans (m5.trans m4))), HL5.out, HO5.out.perm.trans (HD.out.ord.perm.trans HSP.out), HT5.out, HP.out⟩
    · have HP := Go.Lib.hid (HD.out.went rfl)
      go_wp2_with (first
        | (go_at_call 48; refine (K.pop HD.out.rep n v HL3.out (by rw [HT.out]; exact HV.out)).mono ?_; rintro e w4 ⟨rfl, r4, m4⟩; have HK4 := Go.Lib.hid r4; clear r4; dsimp only))
      go_ret
      exact ⟨rfl, l3, n, HK4.out, (moves_below y1).trans (m2.trans (HD.out.moves.trans m4)), HL3.out, HD.out.ord.perm.trans HSP.out, HT.out, HP.out⟩
end
end Go.Proofs.Ytebmomanpkmloaa
