/- Lemmas, several texts in one. -/
import Derived.Test.YtofpalmghdapkaaQ12
import Derived.Test.YtofpalmghdapkaaQ02
/- The landed store of flows: what a store is; Set, Drop, All. -/
namespace Go.Proofs.Ytofpalmghdapkaa
open Go.ChangeShapes Go.WideShapes Go.ChangeAt Go.RowKit
set_option linter.unusedVariables false
set_option linter.unusedSimpArgs false

/-- a store in memory, and what it says. -/
structure FS (w : World) (g sb n N : Nat) (s : Sr) (t : List Cl) (T : Option Addr) (c : Nat) (wd : Addr) (x : Wh) (FW : Nat → Prop) : Prop where
  mem : FR w g sb n N s.slots t T c wd x FW
  tabs : TabS t N s.slots
  whs : WhS x s
  right : RightS s
  rng : ∀ i f, slotF s.slots i = some f → RngFl f
  size : 2 * n < N ∧ N ≤ 1024
/-- it has turned into another one. -/
def FTo (w w' : World) (g sb n N : Nat) (T : Option Addr) (wd : Addr) (FW : Nat → Prop) (s' : Sr) : Prop := ∃ t' T' c' x' FW', FS w' g sb n N s' t' T' c' wd x' FW' ∧ Newer w (FB g sb T FW) (FB g sb T' FW') ∧ Moves w w' (FB g sb T FW)
theorem set_is {cs : List Value} {k : Nat} {v : Value} (h : cs[k]? = some v) : cs.set k v = cs := by
  apply List.ext_getElem?
  intro j
  rw [List.getElem?_set]
  split
  · rename_i e
    subst e
    rw [h]
    rw [if_pos (List.getElem?_eq_some_iff.1 h).1]
  · rfl
theorem spl_two {cur : List Value} {o : Nat} {f : Fl} (h : ∀ j v, (flL f)[j]? = some v → cur[o + j]? = some v) (u no : Int) : spl (spl cur (o + 10) [.int .i64 u]) (o + 11) [.int .i64 no] = spl cur o (flL ⟨f.there, f.back, u, no⟩) := by
  simp only [spl, Nat.add_assoc, Nat.reduceAdd]
  have h0 := set_is (h 0 _ rfl)
  rw [Nat.add_zero] at h0
  rw [h0, set_is (h 1 _ rfl), set_is (h 2 _ rfl), set_is (h 3 _ rfl), set_is (h 4 _ rfl), set_is (h 5 _ rfl), set_is (h 6 _ rfl), set_is (h 7 _ rfl), set_is (h 8 _ rfl), set_is (h 9 _ rfl)]
section
variable {w w' : World} {g sb n N c : Nat} {s : Sr} {t : List Cl} {T : Option Addr} {wd : Addr} {x : Wh} {FW : Nat → Prop}
theorem FS.stay (h : FS w g sb n N s t T c wd x FW) (y : Below w.heap.size w w') : FTo w w' g sb n N T wd FW s := ⟨t, T, c, x, FW, ⟨h.mem.call y, h.tabs, h.whs, h.right, h.rng, h.size⟩, Newer.same _ _, moves_below y⟩
theorem FS.n256 (h : FS w g sb n N s t T c wd x FW) : n ≤ 256 := by rw [← h.mem.len]; exact h.right.room.2
set_option maxRecDepth 100000 in
set_option maxHeartbeats 8000000 in
theorem csetF (h : FS w g sb n N s t T c wd x FW) (num u no : Int) (hn : I64 num) (q : Sr × Int) (hq : setF11 s num u no = q) :
    Calls Try.prog 14 #[.pointer (some ⟨g, 0, none⟩), .int .i64 num, .int .i64 u, .int .i64 no] w fun e w' => e = .returned (.int .i64 q.2) ∧ FTo w w' g sb n N T wd FW q.1 := by
  have HH := Go.Lib.hid h
  have HI := Go.Lib.hid hn
  have HS := Go.Lib.hid (h.whs.when num)
  have HNOW := Go.Lib.hid h.whs.now
  cases ho : thereF s num with
  | none =>
    have HQ : Hid (q = (s, 9)) := Go.Lib.hid (by rw [← hq]; unfold setF11; rw [ho])
    have HS : Hid (∃ a, whenH x num = (a, false)) := Go.Lib.hid (by have := HS.out; rw [ho] at this; exact this)
    clear h hn hq ho
    go_enter Try.func14, Try.ntmps14
    go_wp2_with (go_at_call 35; refine (chas HH.out.mem num HI.out _ HS.out).mono ?_; rintro e w1 ⟨rfl, y1⟩; dsimp only)
    go_ret
    exact ⟨by rw [HQ.out]; rfl, by rw [HQ.out]; exact HH.out.stay y1⟩
  | some f =>
    obtain ⟨i, rfl, hs⟩ := there_iff ho
    have HS : Hid (∃ a, whenH x (i : Int) = (a, true)) := Go.Lib.hid (by have := HS.out; rw [ho] at this; exact this)
    have HSL := Go.Lib.hid hs
    have hi : i < n := by rw [← h.mem.len]; exact slot_lt hs
    have i1 : (0 : Int) ≤ (i : Int) := by omega
    have i2 : (i : Int) < (n : Int) := by omega
    by_cases h1 : u > 1099511627776
    · have HQ : Hid (q = (s, 1)) := Go.Lib.hid (by rw [← hq]; unfold setF11; rw [ho]; dsimp only; rw [if_pos h1])
      have t1 : 1099511627776 < u := h1
      clear h hn hq ho hs h1
      go_enter Try.func14, Try.ntmps14
      go_wp2_with (go_at_call 35; refine (chas HH.out.mem (i : Int) HI.out _ HS.out).mono ?_; rintro e w1 ⟨rfl, y1⟩; dsimp only)
      go_ret
      exact ⟨by rw [HQ.out]; rfl, by rw [HQ.out]; exact HH.out.stay y1⟩
    · have t1 : ¬ 1099511627776 < u := h1
      by_cases h2 : u ≤ s.now
      · have HQ : Hid (q = (s, 14)) := Go.Lib.hid (by rw [← hq]; unfold setF11; rw [ho]; dsimp only; rw [if_neg h1, if_pos h2])
        clear h hn hq ho hs h1
        go_enter Try.func14, Try.ntmps14
        go_wp2_with (first
          | (go_at_call 35; refine (chas HH.out.mem (i : Int) HI.out _ HS.out).mono ?_; rintro e w1 ⟨rfl, y1⟩; have HR1 := Go.Lib.hid (HH.out.mem.call y1); have c2 := HR1.out.box.cell 2 rfl; dsimp only)
          | (go_at_call 30; refine (kWheel.now_ (HH.out.mem.call y1).whl s.now HNOW.out).mono ?_; rintro e w3 ⟨rfl, y3⟩; dsimp only))
        go_ret
        exact ⟨by rw [HQ.out]; rfl, by rw [HQ.out]; exact HH.out.stay (y1.trans (y3.mono y1.size))⟩
      · have HQ : Hid (q = (⟨s.slots.set i (some ⟨f.there, f.back, u, no⟩), s.now⟩, 0)) := Go.Lib.hid (by rw [← hq]; unfold setF11; rw [ho]; dsimp only; rw [if_neg h1, if_neg h2]; rfl)
        have HRS : Hid (RightS q.1) := Go.Lib.hid (by rw [← hq]; exact h.right.set _ u no)
        obtain ⟨X, eX, hX⟩ := h.whs.set (g := ⟨f.there, f.back, u, no⟩) h.right hs (by dsimp only; omega) (by dsimp only; omega)
        have EX := Go.Lib.hid eX
        have HXS := Go.Lib.hid hX
        obtain ⟨cur, hcur⟩ : ∃ cur, (flowsF s.slots).flatMap Fl.L = cur := ⟨_, rfl⟩
        have hcl : i * 12 + 12 ≤ cur.length := by
          have h1 := flat_len Fl.L 12 Fl.len (flowsF s.slots)
          rw [hcur, flows_len, h.mem.len] at h1
          have : (i + 1) * 12 ≤ n * 12 := Nat.mul_le_mul_right 12 (by omega)
          omega
        have HFC : Hid (∀ j v, (flL f)[j]? = some v → cur[i * 12 + j]? = some v) := Go.Lib.hid (fun j v hj => by
          have hl := slot_lt hs
          have hj' : j < 12 := by have := (List.getElem?_eq_some_iff.1 hj).1; simpa using this
          rw [← hcur, flat_get Fl.L 12 Fl.len (flowsF s.slots) i j (by rw [flows_len]; exact hl) hj', flows_get hl, hs]
          exact hj)
        have HCUR := Go.Lib.hid hcur
        clear h hn hq ho hs h1 eX hX hcur
        go_enter Try.func14, Try.ntmps14
        go_upto_region 9 with (first
          | (go_at_call 35; refine (chas HH.out.mem (i : Int) HI.out _ HS.out).mono ?_; rintro e w1 ⟨rfl, y1⟩; have HR1 := Go.Lib.hid (HH.out.mem.call y1); have c2 := HR1.out.box.cell 2 rfl; dsimp only)
          | (go_at_call 30; refine (kWheel.now_ (HH.out.mem.call y1).whl s.now HNOW.out).mono ?_; rintro e w3 ⟨rfl, y3⟩; dsimp only))
        have HR3 := Go.Lib.hid (HR1.out.call y3)
        clear HR1 c2
        have HROW : Hid (Bxo w3.drew sb 40 cur) := Go.Lib.hid (by rw [← HCUR.out]; exact HR3.out.row)
        have HC0 : Hid (∀ Y, Gro sb w3 Y → Y.cell? ⟨g, 0, none⟩ = some (.slice (some ⟨sb, 0, none⟩) n n)) := Go.Lib.hid (fun Y y => (HR3.out.box.gro y HR3.out.gs).cell 0 rfl)
        try simp only [Act.put, List.setIfInBounds_toArray, List.set_cons_zero, List.set_cons_succ]
        refine wp_region_held_drew (S := fun Y => Gro sb w3 Y) (by kernel_rfl) ?_ (fun hHeld => ?_)
        · exact (gro_below (below_drew (Below.refl _ _)))
        refine wpAnyH_take (i := 0) (oi := ⟨some 24, _, _, _, _, _⟩) (v := ?_) rfl (by kernel_rfl) (by kernel_rfl) (by kernel_rfl) (fun _ _ _ h => h) (Or.inl ⟨by rfl, ?_⟩) (by assumption) ?_
        rotate_left
        · intro w hSw; (try dsimp only at hSw); go_simp; (try with_reducible rfl)
        try simp only [Act.put, List.setIfInBounds_toArray, List.set_cons_zero, List.set_cons_succ]
        refine wpAnyH_take (i := 1) (oi := ⟨some 25, _, _, _, _, _⟩) (v := ?_) rfl (by kernel_rfl) (by kernel_rfl) (by kernel_rfl) (fun _ _ _ h => h) (Or.inl ⟨by rfl, ?_⟩) (by assumption) ?_
        rotate_left
        · intro w hSw; (try dsimp only at hSw); go_simp; (try with_reducible rfl)
        try simp only [Act.put, List.setIfInBounds_toArray, List.set_cons_zero, List.set_cons_succ]
        refine wpAnyH_take (i := 2) (oi := ⟨some 26, _, _, _, _, _⟩) (v := ?_) rfl (by kernel_rfl) (by kernel_rfl) (by kernel_rfl) (fun _ _ _ h => h) (Or.inl ⟨by rfl, ?_⟩) (by assumption) ?_
        rotate_left
        · intro w hSw; (try dsimp only at hSw); go_simp; (try with_reducible rfl)
        try simp only [Act.put, List.setIfInBounds_toArray, List.set_cons_zero, List.set_cons_succ]
        refine wpAnyH_take (i := 3) (oi := ⟨some 27, _, _, _, _, _⟩) (v := ?_) rfl (by kernel_rfl) (by kernel_rfl) (by kernel_rfl) (fun _ _ _ h => h) (Or.inl ⟨by rfl, ?_⟩) (by assumption) ?_
        rotate_left
        · intro w hSw; have zc := HC0.out _ hSw; (try dsimp only at hSw); go_simp; (try with_reducible rfl)
        try simp only [Act.put, List.setIfInBounds_toArray, List.set_cons_zero, List.set_cons_succ]
        refine wpAnyH_take (i := 4) (oi := ⟨some 28, _, _, _, _, _⟩) (v := ?_) rfl (by kernel_rfl) (by kernel_rfl) (by kernel_rfl) (fun _ _ _ h => h) (Or.inl ⟨by rfl, ?_⟩) (by assumption) ?_
        rotate_left
        · intro w hSw; (try dsimp only at hSw); go_simp; (try with_reducible rfl)
        try simp only [Act.put, List.setIfInBounds_toArray, List.set_cons_zero, List.set_cons_succ]
        refine wpAnyH_take (i := 5) (oi := ⟨some 29, _, _, _, _, _⟩) (v := ?_) rfl (by kernel_rfl) (by kernel_rfl) (by kernel_rfl) (fun _ _ _ h => h) (Or.inl ⟨by rfl, ?_⟩) (by assumption) ?_
        rotate_left
        · intro w hSw; (try dsimp only at hSw); go_simp; (try with_reducible rfl)
        try simp only [Act.put, List.setIfInBounds_toArray, List.set_cons_zero, List.set_cons_succ]
        refine wpAnyH_take (i := 6) (oi := ⟨some 30, _, _, _, _, _⟩) (v := ?_) rfl (by kernel_rfl) (by kernel_rfl) (by kernel_rfl) (fun _ _ _ h => h) (Or.inl ⟨by rfl, ?_⟩) (by assumption) ?_
        rotate_left
        · intro w hSw; (try dsimp only at hSw); go_simp; (try with_reducible rfl)
        try simp only [Act.put, List.setIfInBounds_toArray, List.set_cons_zero, List.set_cons_succ]
        refine wpAnyH_take (i := 7) (oi := ⟨some 31, _, _, _, _, _⟩) (v := ?_) rfl (by kernel_rfl) (by kernel_rfl) (by kernel_rfl) (fun _ _ _ h => h) (Or.inl ⟨by rfl, ?_⟩) (by assumption) ?_
        rotate_left
        · intro w hSw; (try dsimp only at hSw); go_simp; (try with_reducible rfl)
        try simp only [Act.put, List.setIfInBounds_toArray, List.set_cons_zero, List.set_cons_succ]
        refine wpAnyH_take (i := 8) (oi := ⟨some 32, _, _, _, _, _⟩) (v := ?_) rfl (by kernel_rfl) (by kernel_rfl) (by kernel_rfl) (fun _ _ _ h => h) (Or.inl ⟨by rfl, ?_⟩) (by assumption) ?_
        rotate_left
        · intro w hSw; have zc := HC0.out _ hSw; (try dsimp only at hSw); go_simp; (try with_reducible rfl)
        try simp only [Act.put, List.setIfInBounds_toArray, List.set_cons_zero, List.set_cons_succ]
        refine wpAnyH_take (i := 9) (oi := ⟨some 33, _, _, _, _, _⟩) (v := ?_) rfl (by kernel_rfl) (by kernel_rfl) (by kernel_rfl) (fun _ _ _ h => h) (Or.inl ⟨by rfl, ?_⟩) (by assumption) ?_
        rotate_left
        · intro w hSw; (try dsimp only at hSw); go_simp; (try with_reducible rfl)
        try simp only [Act.put, List.setIfInBounds_toArray, List.set_cons_zero, List.set_cons_succ]
        refine wpAnyH_take (i := 10) (oi := ⟨some 34, _, _, _, _, _⟩) (v := ?_) rfl (by kernel_rfl) (by kernel_rfl) (by kernel_rfl) (fun _ _ _ h => h) (Or.inl ⟨by rfl, ?_⟩) (by assumption) ?_
        rotate_left
        · intro w hSw; (try dsimp only at hSw); go_simp; (try with_reducible rfl)
        try simp only [Act.put, List.setIfInBounds_toArray, List.set_cons_zero, List.set_cons_succ]
        refine wpAnyH_take (i := 11) (oi := ⟨some 35, _, _, _, _, _⟩) (v := ?_) rfl (by kernel_rfl) (by kernel_rfl) (by kernel_rfl) (fun _ _ _ h => h) (Or.inl ⟨by rfl, ?_⟩) (by assumption) ?_
        rotate_left
        · intro w hSw; (try dsimp only at hSw); go_simp; (try with_reducible rfl)
        try simp only [Act.put, List.setIfInBounds_toArray, List.set_cons_zero, List.set_cons_succ]
        refine wpAnyH_take (i := 12) (oi := ⟨some 36, _, _, _, _, _⟩) (v := ?_) rfl (by kernel_rfl) (by kernel_rfl) (by kernel_rfl) (fun _ _ _ h => h) (Or.inl ⟨by rfl, ?_⟩) (by assumption) ?_
        rotate_left
        · intro w hSw; (try dsimp only at hSw); go_simp; (try with_reducible rfl)
        try simp only [Act.put, List.setIfInBounds_toArray, List.set_cons_zero, List.set_cons_succ]
        refine wpAnyH_take (i := 13) (oi := ⟨some 37, _, _, _, _, _⟩) (v := ?_) rfl (by kernel_rfl) (by kernel_rfl) (by kernel_rfl) (fun _ _ _ h => h) (Or.inl ⟨by rfl, ?_⟩) (by assumption) ?_
        rotate_left
        · intro w hSw; (try dsimp only at hSw); go_simp; (try with_reducible rfl)
        try simp only [Act.put, List.setIfInBounds_toArray, List.set_cons_zero, List.set_cons_succ]
        refine wpAnyH_ready (rs := [14]) (by kernel_rfl) (by simp) (AllReadyH.cons (o := ⟨none, _, _, _, _, _⟩) rfl (fun Kc hKc => ?_) AllReadyH.nil)
        rw [if_pos (by rfl)]
        refine step_store_any 3 _ _ rfl sb (i * 12 + 10) 40 _ [.int .i64 u] _ rfl rfl rfl HROW.out info_i1 (by show i * 12 + 10 + 1 ≤ _; omega) (by simp [Value.oneCell']) ?_; intro w4 hb4 ho4; have HB4 := Go.Lib.hid hb4; have HO4 := Go.Lib.hid ho4; clear hb4 ho4
        refine hKc.out _ _ (hHeld.trans HO4.out.gro) (fun hHeld => ?_)
        clear hKc Kc
        try simp only [Act.put, List.setIfInBounds_toArray, List.set_cons_zero, List.set_cons_succ]
        refine wpAnyH_take (i := 15) (oi := ⟨some 38, _, _, _, _, _⟩) (v := ?_) rfl (by kernel_rfl) (by kernel_rfl) (by kernel_rfl) (fun _ _ _ h => h) (Or.inl ⟨by rfl, ?_⟩) (by assumption) ?_
        rotate_left
        · intro w hSw; (try dsimp only at hSw); go_simp; (try with_reducible rfl)
        try simp only [Act.put, List.setIfInBounds_toArray, List.set_cons_zero, List.set_cons_succ]
        refine wpAnyH_take (i := 16) (oi := ⟨some 39, _, _, _, _, _⟩) (v := ?_) rfl (by kernel_rfl) (by kernel_rfl) (by kernel_rfl) (fun _ _ _ h => h) (Or.inl ⟨by rfl, ?_⟩) (by assumption) ?_
        rotate_left
        · intro w hSw; (try dsimp only at hSw); go_simp; (try with_reducible rfl)
        try simp only [Act.put, List.setIfInBounds_toArray, List.set_cons_zero, List.set_cons_succ]
        refine wpAnyH_ready (rs := [17]) (by kernel_rfl) (by simp) (AllReadyH.cons (o := ⟨none, _, _, _, _, _⟩) rfl (fun Kc hKc => ?_) AllReadyH.nil)
        rw [if_pos (by rfl)]
        refine step_store_any 3 _ _ rfl sb (i * 12 + 11) 40 _ [.int .i64 no] _ rfl rfl rfl HB4.out info_i1 (by rw [spl_length]; show i * 12 + 11 + 1 ≤ _; omega) (by simp [Value.oneCell']) ?_; intro w5 hb5 ho5; have HB5 := Go.Lib.hid hb5; have HO5 := Go.Lib.hid ho5; clear hb5 ho5
        refine hKc.out _ _ (hHeld.trans HO5.out.gro) (fun hHeld => ?_)
        clear hKc Kc
        try simp only [Act.put, List.setIfInBounds_toArray, List.set_cons_zero, List.set_cons_succ]
        refine wpAnyH_done (by kernel_rfl) ?_ _
        have YA := Go.Lib.hid hHeld
        clear hHeld
        have HR5 := Go.Lib.hid (HR3.out.drew.slot hi (some ⟨f.there, f.back, u, no⟩) (by rw [HCUR.out]; have := HB5.out; rw [spl_two HFC.out] at this; exact this) (HO4.out.trans HO5.out))
        have M5 := Go.Lib.hid ((moves_below (F := FB g sb T FW) (y1.trans (y3.mono y1.size))).trans (gro_moves YA.out (.inr (.inl rfl))))
        have c2 := HR5.out.box.cell 2 rfl
        clear HROW HC0 HB4 HB5 HO4 HO5 HR3
        go_wp2_with (go_at_call 39; refine (kWheel.set HR5.out.whl (i : Int) u _ EX.out).mono ?_; rintro e w6 ⟨FW6, rfl, r6, n6, m6⟩; have HR6 := Go.Lib.hid (HR5.out.wheel r6 n6 m6); have N6 := Go.Lib.hid n6; have M6 := Go.Lib.hid m6; clear r6 n6 m6; dsimp only)
        go_ret
        have hr := HRS.out
        rw [HQ.out] at hr ⊢
        refine ⟨rfl, t, T, c, X, FW6, ⟨HR6.out, TabS.same HH.out.tabs HSL.out rfl rfl, HXS.out, hr, fun j f' hj => ?_, HH.out.size⟩, (Newer.same w _).next (newer_wheel N6.out) M5.out.size, M5.out.trans (M6.out.mono (fun b f => .inr (.inr (.inr f))))⟩
        dsimp only at hj
        rw [slot_set (slot_lt HSL.out)] at hj
        split at hj
        · cases hj
          exact ⟨(HH.out.rng i f HSL.out).there, (HH.out.rng i f HSL.out).back⟩
        · exact HH.out.rng j f' hj
set_option maxRecDepth 100000 in
set_option maxHeartbeats 8000000 in
theorem cdropF (h : FS w g sb n N s t T c wd x FW) (num : Int) (hn : I64 num) (q : Sr × Fl × Int) (hq : dropF s num = q) :
    Calls Try.prog 12 #[.pointer (some ⟨g, 0, none⟩), .int .i64 num] w fun e w' => e = .returned (.tuple #[flV q.2.1, .int .i64 q.2.2]) ∧ FTo w w' g sb n N T wd FW q.1 := by
  have y0 : Below w.heap.size w (w.alloc (oFl fl0)) := (Below.refl _ _).alloc (Nat.le_refl _) _
  have hbx := Bxo.made w 40 (flL fl0)
  have HH := Go.Lib.hid h
  have HR := Go.Lib.hid (h.mem.call y0)
  have HI := Go.Lib.hid hn
  have HNB : Hid (¬ FB g sb T FW w.heap.size) := Go.Lib.hid (fun f => by have := h.mem.lt _ f; omega)
  have hz0 : w.heap.size < (w.alloc (oFl fl0)).heap.size := by simp
  cases ho : thereF s num with
  | none =>
    have HQ : Hid (q = (s, fl0, 9)) := Go.Lib.hid (by rw [← hq]; unfold dropF; rw [ho])
    have HD := Go.Lib.hid (h.whs.drop_no ho)
    clear h hn hq ho
    go_enter Try.func12, Try.ntmps12
    go_upto_region 1 with fail
    generalize w.alloc (oFl fl0) = W at *
    have HX := Go.Lib.hid hbx
    clear hbx
    have c2 := HR.out.box.cell 2 rfl
    go_wp2_with (first
      | (go_at_call 36; refine (kWheel.drop HR.out.whl num HI.out _ HD.out).mono ?_; rintro e w1 ⟨F1, rfl, r1, n1, m1⟩; have HR1 := Go.Lib.hid (HR.out.wheel r1 n1 m1); have HN1 := Go.Lib.hid n1; have HM1 := Go.Lib.hid m1; have HX1 : Hid (Bxo w1 w.heap.size 40 (flL fl0)) := Go.Lib.hid ((m1.block _ HX.out.lt (fun f => HNB.out (.inr (.inr (.inr f))))).trans HX.out); clear r1 n1 m1; dsimp only)
      | (refine wpList_store_any rfl 40 _ _ rfl w.heap.size 0 40 _ (flL fl0) _ rfl rfl rfl HX1.out info_fl (by show 0 + 12 ≤ 12; omega) (by simp [Value.oneCell']) ?_; intro w2 hb2 ho2; have HX2 : Hid (Bxo w2 w.heap.size 40 (flL fl0)) := Go.Lib.hid hb2; have HO2 := Go.Lib.hid ho2; clear hb2 ho2))
    have hs1 := HM1.out.size
    have n2 : Newer w (FB g sb T FW) (FB g sb T F1) := (Newer.same w _).next (newer_wheel HN1.out) (Nat.le_of_lt hz0)
    have hnc : ¬ FB g sb T F1 w.heap.size := fun f => (newer_wheel (g := g) (sb := sb) (T := T) HN1.out _ f).elim HNB.out (fun q => by omega)
    have m4 := (moves_below (F := FB g sb T FW) y0).trans (HM1.out.mono (fun b f => .inr (.inr (.inr f))))
    refine bodyPost_ret (v := .tuple #[flV fl0, .int .i64 9]) (results_ct12 (p := 4) (u := 5) rfl _ _ w.heap.size (flL fl0) _ rfl HX2.out Try.underlying40 rfl info_fl) rfl ⟨by rw [HQ.out], ?_⟩
    rw [HQ.out]
    refine ⟨t, T, c, x, F1, ⟨HR1.out.keep (fun b hb => HO2.out.block b (fun e => hnc (e ▸ hb))) (Nat.le_of_eq HO2.out.size.symm), HH.out.tabs, HH.out.whs, HH.out.right, HH.out.rng, HH.out.size⟩, n2, ?_⟩
    exact ⟨HO2.out.os.trans m4.os, HO2.out.tape.trans m4.tape, HO2.out.output.trans m4.output, by rw [HO2.out.size]; exact m4.size, fun k hk hn => (HO2.out.block k (by omega)).trans (m4.block k hk hn)⟩
  | some f =>
    obtain ⟨i, rfl, hs⟩ := there_iff ho
    have HQ : Hid (q = (⟨s.slots.set i none, s.now⟩, f, 0)) := Go.Lib.hid (by rw [← hq]; unfold dropF; rw [ho]; rfl)
    have HRS : Hid (RightS q.1) := Go.Lib.hid (by rw [← hq]; exact h.right.drop _)
    obtain ⟨X, eX, hX⟩ := h.whs.drop hs
    obtain ⟨T1, T2, e1, e2, l1, hT⟩ := TabS.take h.tabs h.right.apart hs ((mayF_iff f).1 (h.right.may i f hs).1).2.2.1
    have HTB := Go.Lib.hid hT
    have HTK := Go.Lib.hid (⟨hs, h.rng i f hs, e1, l1, e2⟩ : slotF s.slots i = some f ∧ RngFl f ∧ delC t f.there = (T1, 0) ∧ T1.length = N ∧ delC T1 f.back = (T2, 0))
    have HD := Go.Lib.hid eX
    have HXS := Go.Lib.hid hX
    clear h hn hq ho hs eX hX e1 e2 l1 hT
    go_enter Try.func12, Try.ntmps12
    go_upto_region 1 with fail
    generalize w.alloc (oFl fl0) = W at *
    have HX := Go.Lib.hid hbx
    clear hbx
    have c2 := HR.out.box.cell 2 rfl
    go_wp2_with (first
      | (go_at_call 36; refine (kWheel.drop HR.out.whl (i : Int) HI.out _ HD.out).mono ?_; rintro e w1 ⟨F1, rfl, r1, n1, m1⟩; have HR1 := Go.Lib.hid (HR.out.wheel r1 n1 m1); have HN1 := Go.Lib.hid n1; have HM1 := Go.Lib.hid m1; have HX1 : Hid (Bxo w1 w.heap.size 40 (flL fl0)) := Go.Lib.hid ((m1.block _ HX.out.lt (fun f => HNB.out (.inr (.inr (.inr f))))).trans HX.out); clear r1 n1 m1; dsimp only)
      | (go_at_call 37; refine (ctakeF HR1.out HH.out.size.2 i f HTK.out.1 HTK.out.2.1 T1 T2 HTK.out.2.2.1 HTK.out.2.2.2.1 HTK.out.2.2.2.2 HTB.out.len).mono ?_; rintro e w2 ⟨rfl, hk2⟩; have HK2 := Go.Lib.hid hk2; have HX2 : Hid (Bxo w2 w.heap.size 40 (flL fl0)) := Go.Lib.hid ((hk2.moves.block _ HX1.out.lt (fun f => (newer_wheel HN1.out _ f).elim HNB.out (fun q => by omega))).trans HX1.out); clear hk2; dsimp only)
      | (refine wpList_store_any rfl 40 _ _ rfl w.heap.size 0 40 _ (flL f) _ rfl rfl rfl HX2.out info_fl (by show 0 + 12 ≤ 12; omega) (by simp [Value.oneCell']) ?_; intro w3 hb3 ho3; have HX3 : Hid (Bxo w3 w.heap.size 40 (flL f)) := Go.Lib.hid hb3; have HO3 := Go.Lib.hid ho3; clear hb3 ho3))
    obtain ⟨T', c', hr2, hn2, hm2⟩ := HK2.out
    have hs1 := HM1.out.size
    have n1 : Newer w (FB g sb T FW) (FB g sb T F1) := (Newer.same w _).next (newer_wheel HN1.out) (Nat.le_of_lt hz0)
    have n2 : Newer w (FB g sb T FW) (FB g sb T' F1) := n1.next hn2 (by omega)
    have hnc : ¬ FB g sb T' F1 w.heap.size := fun f => (hn2 _ f).elim (fun f => (newer_wheel (g := g) (sb := sb) (T := T) HN1.out _ f).elim HNB.out (fun q => by omega)) (fun q => by omega)
    have m4 := ((moves_below (F := FB g sb T FW) y0).trans (HM1.out.mono (fun b f => .inr (.inr (.inr f))))).next n1 hm2
    refine bodyPost_ret (v := .tuple #[flV f, .int .i64 0]) (results_ct12 (p := 4) (u := 5) rfl _ _ w.heap.size (flL f) _ rfl HX3.out Try.underlying40 rfl info_fl) rfl ⟨by rw [HQ.out], ?_⟩
    have hr := HRS.out
    rw [HQ.out] at hr ⊢
    refine ⟨T2, T', c', X, F1, ⟨hr2.keep (fun b hb => HO3.out.block b (fun e => hnc (e ▸ hb))) (Nat.le_of_eq HO3.out.size.symm), HTB.out, HXS.out, hr, fun j f' hj => ?_, HH.out.size⟩, n2, ?_⟩
    · dsimp only at hj
      rw [slot_set (slot_lt HTK.out.1)] at hj
      split at hj
      · cases hj
      · exact HH.out.rng j f' hj
    · exact ⟨HO3.out.os.trans m4.os, HO3.out.tape.trans m4.tape, HO3.out.output.trans m4.output, by rw [HO3.out.size]; exact m4.size, fun k hk hn => (HO3.out.block k (by omega)).trans (m4.block k hk hn)⟩
end
end Go.Proofs.Ytofpalmghdapkaa

/- The landed store of flows: All, Tick. -/
namespace Go.Proofs.Ytofpalmghdapkaa
open Go.ChangeShapes Go.WideShapes Go.ChangeAt Go.RowKit
set_option linter.unusedVariables false
set_option linter.unusedSimpArgs false

theorem grownQ {w w' : World} {row : Option Nat} {B : Nat} (h : w.grownBy w' row) (hr : ∀ g, row = some g → B ≤ g) (hB : B ≤ w.heap.size) : Below B w w' :=
  ⟨h.os, h.tape, h.output, h.size, fun k hk => h.block k (by omega) (fun e => by have := hr k e.symm; omega)⟩
section
variable {w w' : World} {g sb n N c : Nat} {s : Sr} {t : List Cl} {T : Option Addr} {wd : Addr} {x : Wh} {FW : Nat → Prop}
set_option maxRecDepth 100000 in
set_option maxHeartbeats 8000000 in
theorem callF (h : FS w g sb n N s t T c wd x FW) (l : List Fl) (hl : allF s.slots = l) :
    Calls Try.prog 15 #[.pointer (some ⟨g, 0, none⟩)] w fun e w' => ∃ A' c', e = .returned (.slice A' l.length c') ∧ FlsAt w' l A' c' ∧ Below w.heap.size w w' := by
  have HH := Go.Lib.hid h
  have HQ := Go.Lib.hid hl
  have hn := h.n256
  have HL := Go.Lib.hid h.mem.len
  obtain ⟨i0_, hi_, hz0, hz1, hz2⟩ := info_parts info_flz
  have c0 := h.mem.box.cell 0 rfl
  clear h hl
  go_enter Try.func15, Try.ntmps15
  go_wp2_with fail
  clear c0
  go_loopw [3, 13] (fun ov iv wr => ∃ (k : Nat) (A' : Option Addr) (c' : Nat), k ≤ n ∧ iv = .int .i64 k ∧ ov = .slice A' (outF s.slots k).length c' ∧ Hid (wr.ownsRow w.heap.size 40 12 (.slice A' (outF s.slots k).length c') (outF s.slots k).length ((outF s.slots k).flatMap Fl.L)) ∧ Hid (Below w.heap.size w wr)) (fun _ iv _ => n - (intOf iv).toNat)
  case atStart => exact ⟨0, none, 0, by omega, rfl, rfl, Go.Lib.hid (own_none _ _ _ _), Go.Lib.hid (Below.refl _ _)⟩
  case round =>
    rename World => wo
    obtain ⟨k, A', c', hk, rfl, rfl, HO, HB⟩ := hrel
    have k0 : (0 : Int) ≤ (k : Int) := by omega
    have HR := Go.Lib.hid (HH.out.mem.call HB.out)
    have hol : (outF s.slots k).length ≤ n := by have := out_le s.slots k; rw [HL.out] at this; exact this
    by_cases hkl : k < n
    · have t1 : (k : Int) < (n : Int) := by omega
      have hon := out_next (l := s.slots) (k := k) (by rw [HL.out]; exact hkl)
      have HC := Go.Lib.hid (HR.out.cell hkl)
      have HS := Go.Lib.hid (HH.out.whs.when (k : Int))
      have HI : Hid (I64 (k : Int)) := Go.Lib.hid (by unfold I64; omega)
      have HN6 := HB.out.size
      cases hs : slotF s.slots k with
      | none =>
        have HS : Hid (∃ a, whenH x (k : Int) = (a, false)) := Go.Lib.hid (by have := HS.out; rw [there_nat, hs] at this; exact this)
        rw [hs] at hon HC
        rw [show (none : Option Fl).toList = [] from rfl, List.append_nil] at hon
        dsimp only [Option.getD] at HC
        clear hs
        have ya : Below wo.heap.size wo (wo.alloc (oFl fl0)) := below_alloc (Below.refl _ _) (Nat.le_refl _) _
        have HR6 := Go.Lib.hid (HR.out.call ya)
        have HB6 := Go.Lib.hid (HB.out.trans (ya.mono HB.out.size))
        have HO6 := Go.Lib.hid (own_keepA (w' := wo.alloc (oFl fl0)) HO.out (fun b e => ya.block b (own_ltF HO.out b e)))
        go_wp2_with (first
          | (refine wpList_load_at rfl 40 _ rfl ⟨sb, k * 12, none⟩ rfl (flL fl0) _ HC.out Try.underlying40 rfl info_fl ?_)
          | (go_at_call 35; refine (chas HR6.out (k : Int) HI.out _ HS.out).mono ?_; rintro e w7 ⟨rfl, y7⟩; have HB7 := Go.Lib.hid (HB6.out.trans (y7.mono HB6.out.size)); have HO7 := Go.Lib.hid (own_keepA (w' := w7) HO6.out (fun b e => y7.block b (own_ltF HO6.out b e))); dsimp only))
        go_round
        case rel => exact ⟨k + 1, A', c', by omega, by go_num, by rw [hon], by rw [hon]; exact HO7, HB7⟩
        case measure => simp [intOf]; omega
      | some f =>
        have HS : Hid (∃ a, whenH x (k : Int) = (a, true)) := Go.Lib.hid (by have := HS.out; rw [there_nat, hs] at this; exact this)
        rw [hs] at hon HC
        rw [show (some f).toList = [f] from rfl] at hon
        dsimp only [Option.getD] at HC
        clear hs
        have ya : Below wo.heap.size wo (wo.alloc (oFl f)) := below_alloc (Below.refl _ _) (Nat.le_refl _) _
        have HR6 := Go.Lib.hid (HR.out.call ya)
        have HB6 := Go.Lib.hid (HB.out.trans (ya.mono HB.out.size))
        have HO6 := Go.Lib.hid (own_keepA (w' := wo.alloc (oFl f)) HO.out (fun b e => ya.block b (own_ltF HO.out b e)))
        have HX6 := Go.Lib.hid (Bxo.made wo 40 (flL f))
        go_upto_region 8 with (first
          | (refine wpList_load_at rfl 40 _ rfl ⟨sb, k * 12, none⟩ rfl (flL f) _ HC.out Try.underlying40 rfl info_fl ?_)
          | (go_at_call 35; refine (chas HR6.out (k : Int) HI.out _ HS.out).mono ?_; rintro e w7 ⟨rfl, y7⟩; have HB7 := Go.Lib.hid (HB6.out.trans (y7.mono HB6.out.size)); have HO7 := Go.Lib.hid (own_keepA (w' := w7) HO6.out (fun b e => y7.block b (own_ltF HO6.out b e))); have HX7 := Go.Lib.hid (HX6.out.keep y7 HX6.out.lt); dsimp only))
        have yb : Below w7.heap.size w7 (w7.alloc (oFl f)) := below_alloc (Below.refl _ _) (Nat.le_refl _) _
        have HB8 := Go.Lib.hid (HB7.out.trans (yb.mono HB7.out.size))
        have HO8 := Go.Lib.hid (own_keepA (w' := w7.alloc (oFl f)) HO7.out (fun b e => yb.block b (own_ltF HO7.out b e)))
        have V8 := Go.Lib.hid (Bxo.made w7 40 (flL f))
        have z8 := HB8.out.size
        clear HO HO6 HB6 HR6
        go_wp2_with (first
          | (refine wpList_load_box rfl 40 _ rfl wo.heap.size rfl (flL f) _ HX7.out Try.underlying40 rfl info_fl ?_)
          | (at_builtin; refine wpList_append_rdK rfl _ _ 29 rfl w.heap.size 40 i0_ _ 12 96 Try.underlying29 hi_ hz0 hz1 hz2 rfl (by omega) (.slice A' (outF s.slots k).length c') (outF s.slots k).length ((outF s.slots k).flatMap Fl.L) rfl HO8.out (some ⟨w7.heap.size, 0, none⟩) 1 1 (flL f) rfl rfl (fun h => by cases h) (.inr ⟨_, rfl, V8.out.at⟩) (by simp [Value.oneCell']) (by unfold maxLen; omega) (by omega) z8 ?_; intro v9 w9 ho9 hg9 hat9; obtain ⟨A9, c9, rfl⟩ := own_slice ho9; have y9 := grownF (w0 := w) hg9 (fun g e => by rw [ownBlock_blk] at e; exact own_geF HO8.out g e) z8; have HO9 := Go.Lib.hid ho9; clear hg9 hat9 ho9; dsimp only))
        go_round
        case rel => exact ⟨k + 1, A9, c9, by omega, by go_num, by rw [hon, List.length_append]; rfl, Go.Lib.hid (by rw [hon, List.length_append, List.flatMap_append]; simpa [Fl.L] using HO9.out), Go.Lib.hid (HB8.out.trans y9)⟩
        case measure => simp [intOf]; omega
    · obtain rfl : k = n := by omega
      have t1 : ¬ (k : Int) < (k : Int) := by omega
      have hr : outF s.slots k = l := by rw [← HQ.out, ← HL.out]; unfold outF; rw [List.take_length]
      rw [hr] at HO
      simp only [hr]
      go_wp2_with fail
      go_ret
      exact ⟨A', c', rfl, FlsAt.ofOwn rfl HO.out, HB.out⟩
end
/-- slots without some numbers' flows. -/
def takeL (l : List (Option Fl)) (D : List Int) : List (Option Fl) := D.foldl (fun l d => l.set d.toNat none) l
theorem takeL_len (D : List Int) : ∀ l : List (Option Fl), (takeL l D).length = l.length := by
  induction D with
  | nil => intro l; rfl
  | cons d D ih => intro l; exact (ih _).trans List.length_set
theorem slot_none (l : List (Option Fl)) (i j : Nat) : slotF (l.set i none) j = if i = j then none else slotF l j := by
  rcases Nat.lt_or_ge i l.length with h | h
  · exact slot_set h none j
  · rw [List.set_eq_of_length_le h]
    split
    · rename_i e
      exact slot_out (by omega)
    · rfl
theorem takeL_slot (D : List Int) : ∀ (l : List (Option Fl)) (j : Nat), (∀ d ∈ D, 0 ≤ d) → slotF (takeL l D) j = if (j : Int) ∈ D then none else slotF l j := by
  induction D with
  | nil => intro l j _; simp [takeL]
  | cons d D ih =>
    intro l j hd
    have h := ih (l.set d.toNat none) j (fun e he => hd e (List.mem_cons_of_mem _ he))
    have h0 := hd d List.mem_cons_self
    refine (show slotF (takeL l (d :: D)) j = slotF (takeL (l.set d.toNat none) D) j from rfl).trans (h.trans ?_)
    rw [slot_none]
    by_cases h1 : (j : Int) ∈ D
    · rw [if_pos h1, if_pos (List.mem_cons_of_mem _ h1)]
    · rw [if_neg h1]
      by_cases h2 : d.toNat = j
      · rw [if_pos h2, if_pos]
        have : d = (j : Int) := by omega
        rw [this]
        exact List.mem_cons_self
      · rw [if_neg h2, if_neg]
        intro q
        rcases List.mem_cons.1 q with q | q
        · omega
        · exact h1 q
theorem takeL_next (l : List (Option Fl)) (D : List Int) {k : Nat} (hk : k < D.length) : takeL l (D.take (k + 1)) = (takeL l (D.take k)).set D[k].toNat none := by
  unfold takeL
  rw [List.take_succ_eq_append_getElem hk, List.foldl_append]
  rfl
/-- alarms that are due, each of a flow. -/
structure DuS (l : List (Option Fl)) (Du : List Al) : Prop where
  flow : ∀ k (hk : k < Du.length), ∃ (i : Nat) (f : Fl), Du[k].num = (i : Int) ∧ slotF l i = some f
  once : OnceA Du
theorem DuS.none (l : List (Option Fl)) : DuS l [] := ⟨fun k hk => absurd hk (Nat.not_lt_zero k), List.Pairwise.nil⟩
theorem DuS.due (l : List (Option Fl)) (now : Int) : DuS l (dueA (alF l) now) := ⟨fun k hk => by
  have hm := (due_mem.1 (List.getElem_mem hk)).1
  obtain ⟨j, f, hj, e⟩ := alF_mem.1 hm
  exact ⟨j, f, by rw [e], hj⟩, due_once (alF_once l) now⟩
theorem due_takes (l : List (Option Fl)) (now : Int) : takeL l (numsA (dueA (alF l) now)) = l.map (stays now) := by
  refine slots_ext (by rw [takeL_len, List.length_map]) fun j => ?_
  have hmem : (j : Int) ∈ numsA (dueA (alF l) now) ↔ ∃ f, slotF l j = some f ∧ f.until_ ≤ now := by
    unfold numsA
    rw [List.mem_map]
    constructor
    · rintro ⟨a, ha, e⟩
      obtain ⟨h1, h2⟩ := due_mem.1 ha
      obtain ⟨i, f, hi, rfl⟩ := alF_mem.1 h1
      have : i = j := by have : (i : Int) = (j : Int) := e; omega
      subst this
      exact ⟨f, hi, h2⟩
    · rintro ⟨f, hf, hu⟩
      exact ⟨⟨(j : Int), f.until_⟩, due_mem.2 ⟨alF_mem.2 ⟨j, f, hf, rfl⟩, hu⟩, rfl⟩
  rw [takeL_slot _ _ _ (fun d hd => ?_), slot_map l (stays now) rfl]
  · cases hs : slotF l j with
    | none => rw [show stays now none = none from rfl, ite_self]
    | some f =>
      by_cases hu : f.until_ ≤ now
      · rw [if_pos (hmem.2 ⟨f, hs, hu⟩)]
        unfold stays
        rw [Option.filter_some, if_neg (by simp; omega)]
      · rw [if_neg (fun q => by
          obtain ⟨f', hf', hu'⟩ := hmem.1 q
          rw [hs] at hf'
          cases hf'
          exact hu hu')]
        unfold stays
        rw [Option.filter_some, if_pos (by simp; omega)]
  · obtain ⟨a, ha, rfl⟩ := List.mem_map.1 hd
    obtain ⟨j, f, _, e⟩ := alF_mem.1 (due_mem.1 ha).1
    rw [e]
    exact Int.natCast_nonneg j
theorem DuS.num {l : List (Option Fl)} {Du : List Al} (h : DuS l Du) {k : Nat} (hk : k < Du.length) {i : Nat} {f : Fl} (e : Du[k].num = (i : Int)) (hs : slotF l i = some f) : slotF (takeL l ((numsA Du).take k)) i = some f := by
  rw [takeL_slot, if_neg, hs]
  · intro q
    obtain ⟨j, hj, e'⟩ := List.getElem_of_mem q
    have hj1 : j < k := by rw [List.length_take] at hj; omega
    have hj2 : j < Du.length := by omega
    rw [List.getElem_take] at e'
    have e2 : Du[j].num = (i : Int) := by rw [← e']; simp [numsA]
    exact List.pairwise_iff_getElem.1 h.once j k hj2 hk hj1 (e2.trans e.symm)
  · intro d hd
    obtain ⟨a, ha, rfl⟩ := List.mem_map.1 (List.mem_of_mem_take hd)
    obtain ⟨j, hj, rfl⟩ := List.getElem_of_mem ha
    obtain ⟨i', f', e', _⟩ := h.flow j hj
    rw [e']
    exact Int.natCast_nonneg i'
end Go.Proofs.Ytofpalmghdapkaa

/- The landed store of flows: Tick. -/
namespace Go.Proofs.Ytofpalmghdapkaa
open Go.ChangeShapes Go.WideShapes Go.ChangeAt Go.RowKit
set_option linter.unusedVariables false
set_option linter.unusedSimpArgs false

theorem DuS.pos {l : List (Option Fl)} {Du : List Al} (h : DuS l Du) : ∀ d ∈ numsA Du, 0 ≤ d := fun d hd => by
  obtain ⟨a, ha, rfl⟩ := List.mem_map.1 hd
  obtain ⟨j, hj, rfl⟩ := List.getElem_of_mem ha
  obtain ⟨i', f', e', _⟩ := h.flow j hj
  rw [e']
  exact Int.natCast_nonneg i'
theorem takeL_sub {D : List Int} {l : List (Option Fl)} {j : Nat} {f : Fl} (hd : ∀ d ∈ D, 0 ≤ d) (h : slotF (takeL l D) j = some f) : slotF l j = some f := by
  rw [takeL_slot _ _ _ hd] at h
  split at h
  · cases h
  · exact h
theorem wtick {w : World} {wd : Addr} {x : Wh} {FW : Nat → Prop} (h : kWheel.Rep w wd x FW) (now : Int) (X : Wh) (D : List Int) (er : Int) (hq : tickH x now = (X, D, er)) (m : Nat) (hm : D.length = m) :
    Calls Try.prog 38 #[.pointer (some wd), .int .i64 now] w fun e w' => ∃ F' A c, e = .returned (.tuple #[.slice A m c, .int .i64 er]) ∧ DueAt w w' F' D A c ∧ kWheel.Rep w' wd X F' ∧ Newer w FW F' ∧ Moves w w' FW := by
  subst hm
  exact kWheel.tick h now _ hq
/-- while what is due is taken out. -/
structure TkS (w1 : World) (g sb n N : Nat) (l0 : List (Option Fl)) (Du : List Al) (T : Option Addr) (wd : Addr) (X : Wh) (FW : Nat → Prop) (k : Nat) (wr : World) (t : List Cl) (Tk : Option Addr) (c : Nat) (G : Option Addr) (d : Nat) : Prop where
  mem : FR wr g sb n N (takeL l0 ((numsA Du).take k)) t Tk c wd X FW
  tabs : TabS t N (takeL l0 ((numsA Du).take k))
  new : Newer w1 (FB g sb T FW) (FB g sb Tk FW)
  mov : Moves w1 wr (FB g sb T FW)
  own : wr.ownsRow w1.heap.size 40 12 (.slice G k d) k (((Du.take k).map (flowA l0)).flatMap Fl.L)
  ap : ∀ b, blk G = some b → ¬ FB g sb Tk FW b
/-- one more has gone. -/
theorem TkS.next {w1 : World} {g sb n N : Nat} {l0 : List (Option Fl)} {Du : List Al} {T : Option Addr} {wd : Addr} {X : Wh} {FW : Nat → Prop} {k : Nat} {wr w2 w3 w4 : World} {t t2 : List Cl} {Tk T2 : Option Addr} {c c2 : Nat} {G G4 : Option Addr} {d d4 : Nat}
    (h : TkS w1 g sb n N l0 Du T wd X FW k wr t Tk c G d) (hk : k < Du.length) {i : Nat} {f : Fl} (e : Du[k].num = (i : Int)) (hs : slotF l0 i = some f)
    (r2 : FR w2 g sb n N ((takeL l0 ((numsA Du).take k)).set i none) t2 T2 c2 wd X FW) (hT : TabS t2 N ((takeL l0 ((numsA Du).take k)).set i none)) (n2 : Newer wr (FB g sb Tk FW) (FB g sb T2 FW)) (m2 : Moves wr w2 (FB g sb Tk FW))
    (y3 : Below w2.heap.size w2 w3) (g4 : w3.grownBy w4 (blk G)) (o4 : w4.ownsRow w1.heap.size 40 12 (.slice G4 (k + 1) d4) (k + 1) (((Du.take k).map (flowA l0)).flatMap Fl.L ++ flL f)) (a4 : blk G4 = blk G ∨ blk G4 = some w3.heap.size) :
    TkS w1 g sb n N l0 Du T wd X FW (k + 1) w4 t2 T2 c2 G4 d4 := by
  have hkn : k < (numsA Du).length := by unfold numsA; rw [List.length_map]; exact hk
  have en : (numsA Du)[k] = (i : Int) := by rw [← e]; simp [numsA]
  have el : takeL l0 ((numsA Du).take (k + 1)) = (takeL l0 ((numsA Du).take k)).set i none := by rw [takeL_next _ _ hkn, en]; rfl
  have eg : ((Du.take (k + 1)).map (flowA l0)).flatMap Fl.L = ((Du.take k).map (flowA l0)).flatMap Fl.L ++ flL f := by
    rw [List.take_succ_eq_append_getElem hk, List.map_append, List.flatMap_append]
    have : flowA l0 Du[k] = f := by unfold flowA; rw [e, show ((i : Int)).toNat = i from rfl, hs]; rfl
    simp [this, Fl.L]
  have hs1 := h.mov.size
  have hs2 := m2.size
  have hs3 := y3.size
  have hs4 := g4.size
  have ap2 : ∀ b, blk G = some b → ¬ FB g sb T2 FW b := fun b hb q => (n2 b q).elim (h.ap b hb) (fun q => by have := own_ltF h.own b hb; omega)
  have hb : ∀ b, b < w2.heap.size → blk G ≠ some b → w4.heap[b]? = w2.heap[b]? := fun b hb hn => (g4.block b (by omega) hn.symm).trans (y3.block b hb)
  refine ⟨by rw [el]; exact r2.keep (fun b hf => hb b (r2.lt b hf) (fun q => ap2 b q hf)) (by omega), by rw [el]; exact hT, h.new.next n2 hs1, ?_, by rw [eg]; exact o4, fun b hb4 q => ?_⟩
  · have m := h.mov.next h.new m2
    exact ⟨(g4.os.trans y3.os).trans m.os, (g4.tape.trans y3.tape).trans m.tape, (g4.output.trans y3.output).trans m.output, by omega, fun b hbl hn => (hb b (by omega) (fun q => by have := own_geF h.own b q; omega)).trans (m.block b hbl hn)⟩
  · rcases a4 with a4 | a4
    · rw [a4] at hb4; exact ap2 b hb4 q
    · rw [a4] at hb4
      injection hb4 with hb4
      have := r2.lt b q
      omega
/-- what Tick hands back. -/
def FTick (w : World) (g sb n N : Nat) (T : Option Addr) (wd : Addr) (FW : Nat → Prop) (q : Sr × List Fl × Int) (e : Ending) (w' : World) : Prop := ∃ A d t' T' c' x' FW', e = .returned (.tuple #[.slice A q.2.1.length d, .int .i64 q.2.2]) ∧ FS w' g sb n N q.1 t' T' c' wd x' FW' ∧ Newer w (FB g sb T FW) (FB g sb T' FW') ∧ Moves w w' (FB g sb T FW) ∧ FlsDue w w' (FB g sb T' FW') q.2.1 A d
/-- what is due of a store, and what is left. -/
structure TickS (s : Sr) (x : Wh) (now : Int) (q : Sr × List Fl × Int) (X : Wh) (Du : List Al) (er : Int) : Prop where
  wheel : tickH x now = (X, numsA Du, er)
  due : DuS s.slots Du
  whs : WhS X q.1
  right : RightS q.1
  slots : q.1.slots = takeL s.slots (numsA Du)
  flows : q.2.1 = Du.map (flowA s.slots)
  err : q.2.2 = er
theorem TickS.of {s : Sr} {x : Wh} (h : WhS x s) (r : RightS s) (now : Int) (q : Sr × List Fl × Int) (hq : tickF s now = q) : ∃ X Du er, TickS s x now q X Du er := by
  have hr := r.tick now
  rw [hq] at hr
  by_cases hb : now < s.now ∨ now > 1099511627776
  · have e : q = (s, [], 1) := by rw [← hq]; unfold tickF; rw [if_pos hb]
    subst e
    exact ⟨x, [], 1, h.tick_no hb, DuS.none _, h, hr, rfl, rfl, rfl⟩
  · have e : q = (⟨s.slots.map (stays now), now⟩, (dueA (alF s.slots) now).map (flowA s.slots), 0) := by rw [← hq]; unfold tickF; rw [if_neg hb]; rfl
    subst e
    obtain ⟨X, h1, h2⟩ := h.tick (now := now) (by omega) (by omega)
    exact ⟨X, dueA (alF s.slots) now, 0, h1, DuS.due _ _, h2, hr, (due_takes _ _).symm, rfl, rfl⟩
section
variable {w w' : World} {g sb n N c : Nat} {s : Sr} {t : List Cl} {T : Option Addr} {wd : Addr} {x : Wh} {FW : Nat → Prop}
theorem FTick.fin {now : Int} {q : Sr × List Fl × Int} {X : Wh} {Du : List Al} {er : Int} (h : FS w g sb n N s t T c wd x FW) (hT : TickS s x now q X Du er) {w1 wr : World} {F1 : Nat → Prop} (n1 : Newer w FW F1) (m1 : Moves w w1 FW) {t' : List Cl} {Tk : Option Addr} {c' : Nat} {G : Option Addr} {d m : Nat} (hm : Du.length = m) (hk : TkS w1 g sb n N s.slots Du T wd X F1 m wr t' Tk c' G d) :
    FTick w g sb n N T wd FW q (.returned (.tuple #[.slice G m d, .int .i64 er])) wr := by
  have e1 : (numsA Du).take m = numsA Du := by rw [List.take_of_length_le]; unfold numsA; rw [List.length_map]; omega
  have e2 : Du.take m = Du := by rw [List.take_of_length_le]; omega
  have hmem := hk.mem
  have htab := hk.tabs
  have hown := hk.own
  rw [e1, ← hT.slots] at hmem htab
  rw [e2, ← hT.flows] at hown
  have hl : q.2.1.length = m := by rw [hT.flows, List.length_map, hm]
  have hs1 := m1.size
  refine ⟨G, d, t', Tk, c', X, F1, by rw [hl, hT.err], ⟨hmem, htab, hT.whs, hT.right, fun i f hf => ?_, h.size⟩, (newer_wheel n1).next hk.new hs1, ?_, ⟨FlsAt.ofOwn hl hown, fun ad e => ?_⟩⟩
  · rw [hT.slots] at hf
    exact h.rng i f (takeL_sub hT.due.pos hf)
  · exact (m1.mono (fun b f => .inr (.inr (.inr f)))).next (newer_wheel n1) hk.mov
  · have h1 := own_geF hown ad.block (by rw [e]; rfl)
    have h2 := own_ltF hown ad.block (by rw [e]; rfl)
    exact ⟨by omega, h2, hk.ap ad.block (by rw [e]; rfl)⟩
set_option maxRecDepth 100000 in
set_option maxHeartbeats 8000000 in
theorem ctickF (h : FS w g sb n N s t T c wd x FW) (now : Int) (q : Sr × List Fl × Int) (hq : tickF s now = q) :
    Calls Try.prog 13 #[.pointer (some ⟨g, 0, none⟩), .int .i64 now] w (FTick w g sb n N T wd FW q) := by
  have HH := Go.Lib.hid h
  obtain ⟨X, Du, er, hT⟩ := TickS.of h.whs h.right now q hq
  have HT := Go.Lib.hid hT
  obtain ⟨m, hm⟩ : ∃ m, Du.length = m := ⟨_, rfl⟩
  have HM := Go.Lib.hid hm
  have HNM : Hid ((numsA Du).length = m) := Go.Lib.hid (by unfold numsA; rw [List.length_map, hm])
  have hn := h.n256
  have hmb : m ≤ 256 := by
    have h1 := alF_length s.slots
    rcases Nat.lt_or_ge 256 m with hl | hl
    · exfalso
      by_cases hb : now < s.now ∨ now > 1099511627776
      · have e := congrArg (fun p => p.2.1.length) hq
        unfold tickF at e
        rw [if_pos hb] at e
        dsimp only at e
        rw [hT.flows, List.length_map, hm] at e
        simp at e
        omega
      · have e := congrArg (fun p => p.2.1.length) hq
        unfold tickF at e
        rw [if_neg hb] at e
        dsimp only at e
        rw [hT.flows, List.length_map, List.length_map, hm] at e
        have h2 := due_length (alF s.slots) now
        have h3 := h.mem.len
        omega
    · exact hl
  have HLW := Go.Lib.hid h.mem.lt
  obtain ⟨i0_, hi_, hz0, hz1, hz2⟩ := info_parts info_flz
  have c2 := h.mem.box.cell 2 rfl
  clear h hq hT hm
  go_enter Try.func13, Try.ntmps13
  go_wp2_with (go_at_call 38; refine (wtick HH.out.mem.whl now X (numsA Du) er HT.out.wheel m HNM.out).mono ?_; rintro e w1 ⟨F1, A1, c1, rfl, d1, r1, n1, m1⟩; have HD1 := Go.Lib.hid d1; have HR1 := Go.Lib.hid (HH.out.mem.wheel r1 n1 m1); have HN1 := Go.Lib.hid n1; have HM1 := Go.Lib.hid m1; clear d1 r1 n1 m1; dsimp only)
  clear c2
  have HI0 : Hid (TkS w1 g sb n N s.slots Du T wd X F1 0 w1 t T c none 0) := Go.Lib.hid ⟨HR1.out, HH.out.tabs, Newer.same _ _, Moves.refl _ _, own_none _ _ _ _, fun b e => by cases e⟩
  have hs1 := HM1.out.size
  have HNF : Hid (∀ ad, A1 = some ad → ¬ FB g sb T F1 ad.block) := Go.Lib.hid (fun ad e q => by
    have h1 := HD1.out.apart ad e
    rcases q with q | q | q | q
    · have := HLW.out g (.inl rfl); omega
    · have := HLW.out sb (.inr (.inl rfl)); omega
    · have := HLW.out ad.block (.inr (.inr (.inl q))); omega
    · exact h1.2.2 q)
  go_loopw [8, 24] (fun ov iv wr => ∃ (k : Nat) (G : Option Addr) (d : Nat) (t' : List Cl) (Tk : Option Addr) (c' : Nat), k ≤ m ∧ iv = .int .i64 k ∧ ov = .slice G k d ∧ Hid (TkS w1 g sb n N s.slots Du T wd X F1 k wr t' Tk c' G d)) (fun _ iv _ => m - (intOf iv).toNat)
  case atStart => exact ⟨0, none, 0, t, T, c, by omega, rfl, rfl, HI0⟩
  case round =>
    rename World => wo
    obtain ⟨k, G, d, t', Tk, c', hk, rfl, rfl, HI⟩ := hrel
    clear HI0
    have k0 : (0 : Int) ≤ (k : Int) := by omega
    by_cases hkm : k < m
    · have t1 : (k : Int) < (m : Int) := by omega
      have hkD : k < Du.length := by rw [HM.out]; exact hkm
      obtain ⟨i, f, en, hs⟩ := HT.out.due.flow k hkD
      have HKD := Go.Lib.hid hkD
      have HEN := Go.Lib.hid en
      have HSL := Go.Lib.hid hs
      have HLK := Go.Lib.hid (HT.out.due.num hkD en hs)
      have hins := HD1.out.ins.keepB (w' := wo) (fun ad e => HI.out.mov.block _ (HD1.out.apart ad e).2.1 (HNF.out ad e))
      obtain ⟨ad, rfl, hcell⟩ := hins.cell (i := k) (by rw [HNM.out]; exact hkm)
      have d0 := hcell wo (Below.refl _ _)
      have en' : (numsA Du)[k]'(by rw [HNM.out]; exact hkm) = (i : Int) := by rw [← en]; simp [numsA]
      rw [en'] at d0
      have hpos : ∀ e ∈ (numsA Du).take k, 0 ≤ e := fun e he => HT.out.due.pos e (List.mem_of_mem_take he)
      have hmay := HH.out.right.may i f hs
      obtain ⟨T1, T2, e1, e2, l1, hT2⟩ := TabS.take HI.out.tabs (fun i j f g hf hg => HH.out.right.apart i j f g (takeL_sub hpos hf) (takeL_sub hpos hg)) HLK.out ((mayF_iff f).1 hmay.1).2.2.1
      have HTB := Go.Lib.hid hT2
      have HTK := Go.Lib.hid (⟨HH.out.rng i f hs, e1, l1, e2⟩ : RngFl f ∧ delC t' f.there = (T1, 0) ∧ T1.length = N ∧ delC T1 f.back = (T2, 0))
      clear hins hcell en hs en' hpos hmay e1 e2 l1 hT2
      go_upto_region 8 with fail
      clear d0
      go_wp2_with (first
        | (go_at_call 37; refine (ctakeF HI.out.mem HH.out.size.2 i f HLK.out HTK.out.1 T1 T2 HTK.out.2.1 HTK.out.2.2.1 HTK.out.2.2.2 HTB.out.len).mono ?_; rintro e w2 ⟨rfl, hk2⟩; obtain ⟨T9, c9, r9, n9, m9⟩ := hk2; have HR9 := Go.Lib.hid r9; have HN9 := Go.Lib.hid n9; have HM9 := Go.Lib.hid m9; have HO9 := Go.Lib.hid (own_keepA (w' := w2) HI.out.own (fun b e => m9.block b (own_ltF HI.out.own b e) (HI.out.ap b e))); have V3 := Go.Lib.hid (Bxo.made w2 40 (flL f)); have y3 : Below w2.heap.size w2 (w2.alloc (oFl f)) := below_alloc (Below.refl _ _) (Nat.le_refl _) _; have HO3 := Go.Lib.hid (own_keepA (w' := w2.alloc (oFl f)) HO9.out (fun b e => y3.block b (own_ltF HO9.out b e))); have z3 : w1.heap.size ≤ (w2.alloc (oFl f)).heap.size := Nat.le_trans (Nat.le_trans HI.out.mov.size HM9.out.size) y3.size; clear r9 n9 m9; dsimp only)
        | (at_builtin; refine wpList_append_rdK rfl _ _ 29 rfl w1.heap.size 40 i0_ _ 12 96 Try.underlying29 hi_ hz0 hz1 hz2 rfl (by omega) (.slice G k d) k (((Du.take k).map (flowA s.slots)).flatMap Fl.L) rfl HO3.out (some ⟨w2.heap.size, 0, none⟩) 1 1 (flL f) rfl rfl (fun h => by cases h) (.inr ⟨_, rfl, V3.out.at⟩) (by simp [Value.oneCell']) (by unfold maxLen; omega) (by omega) z3 ?_; intro v4 w4 ho4 hg4 hat4; obtain ⟨A4, c4, rfl⟩ := own_slice ho4; rw [ownBlock_blk] at hg4; rw [ownBlock_blk, ownBlock_blk] at hat4; have HO4 := Go.Lib.hid ho4; have HG4 := Go.Lib.hid hg4; have HA4 := Go.Lib.hid hat4; clear hg4 hat4 ho4; dsimp only))
      go_round
      case rel => exact ⟨k + 1, A4, c4, T2, T9, c9, by omega, by go_num, rfl, Go.Lib.hid (HI.out.next HKD.out HEN.out HSL.out HR9.out HTB.out HN9.out HM9.out y3 HG4.out HO4.out HA4.out)⟩
      case measure => simp [intOf]; omega
    · obtain rfl : k = m := by omega
      have t1 : ¬ (k : Int) < (k : Int) := by omega
      go_wp2_with fail
      refine bodyPost_ret (v := .tuple #[.slice G k d, .int .i64 er]) ?_ rfl (FTick.fin HH.out HT.out HN1.out HM1.out HM.out HI.out)
      simp [results, Try.results13, go_sem]
end
end Go.Proofs.Ytofpalmghdapkaa

/- The landed store of flows: Add. -/
namespace Go.Proofs.Ytofpalmghdapkaa
open Go.ChangeShapes Go.WideShapes Go.ChangeAt Go.RowKit
set_option linter.unusedVariables false
set_option linter.unusedSimpArgs false

theorem free_cnt {l : List (Option Fl)} (h : freeF l = none) : cntF l = l.length := by
  unfold cntF
  rw [List.countP_eq_length]
  intro o ho
  obtain ⟨i, hi, rfl⟩ := List.getElem_of_mem ho
  have := freeF_none h i hi
  rw [slot_get hi] at this
  exact Option.isSome_iff_ne_none.2 this
theorem free_less {l : List (Option Fl)} {i : Nat} (h : freeF l = some i) : cntF l < l.length := by
  obtain ⟨hi, hn, _⟩ := freeF_some h
  have h1 := cnt_set hi (some fl0)
  have h2 := cnt_le (l.set i (some fl0))
  rw [hn, List.length_set] at *
  simp at h1
  omega
section
variable {w w' : World} {g sb n N c : Nat} {s : Sr} {t : List Cl} {T : Option Addr} {wd : Addr} {x : Wh} {FW : Nat → Prop}
theorem FS.knows (h : FS w g sb n N s t T c wd x FW) (k : Tp) : ∃ m b, getC t k = (m, b) ∧ (findF s.slots k).isSome = b := by
  rcases h.tabs.find h.right k with ⟨h1, h2⟩ | ⟨i, f, h1, _, ⟨_, h3⟩ | ⟨_, _, h3⟩⟩
  · exact ⟨_, _, h2, by rw [h1]; rfl⟩
  · exact ⟨_, _, h3, by rw [h1]; rfl⟩
  · exact ⟨_, _, h3, by rw [h1]; rfl⟩
set_option maxRecDepth 100000 in
set_option maxHeartbeats 16000000 in
theorem caddF (h : FS w g sb n N s t T c wd x FW) (f : Fl) (rf : RngFl f) (q : Sr × Int × Int) (hq : addS s f = q) :
    Calls Try.prog 9 #[.pointer (some ⟨g, 0, none⟩), flV f] w fun e w' => e = .returned (.tuple #[.int .i64 q.2.1, .int .i64 q.2.2]) ∧ FTo w w' g sb n N T wd FW q.1 := by
  have y0 : Below w.heap.size w (w.alloc (oFl f)) := (Below.refl _ _).alloc (Nat.le_refl _) _
  have hbx := Bxo.made w 40 (flL f)
  have HH := Go.Lib.hid h
  have HR := Go.Lib.hid (h.mem.call y0)
  have RF := Go.Lib.hid rf
  have HNOW := Go.Lib.hid h.whs.now
  have hn := h.n256
  obtain ⟨b, hb⟩ : ∃ b, mayF f = b := ⟨_, rfl⟩
  have HB := Go.Lib.hid hb
  have hq0 := hq
  unfold addS at hq
  rw [hb] at hq
  cases b
  · have HQ : Hid (q = (s, 0, 1)) := Go.Lib.hid (by rw [← hq]; rfl)
    clear h rf hq hq0 hb
    go_enter Try.func9, Try.ntmps9
    go_upto_region 1 with fail
    generalize w.alloc (oFl f) = W at *
    have HX := Go.Lib.hid hbx
    clear hbx
    go_wp2_with (first
      | (refine wpList_load_box rfl 40 _ rfl w.heap.size rfl (flL f) _ HX.out Try.underlying40 rfl info_fl ?_)
      | (go_at_call 29; refine (cmayBe12 f RF.out _ _ HB.out).mono ?_; rintro e w1 ⟨rfl, y1⟩; dsimp only))
    refine bodyPost_ret (v := .tuple #[.int .i64 0, .int .i64 1]) ?_ rfl ⟨by rw [HQ.out], by rw [HQ.out]; exact HH.out.stay (y0.trans (y1.mono y0.size))⟩
    simp [results, Try.results9, go_sem]
  · rw [if_neg (by simp)] at hq
    obtain ⟨k1, b1, g1, f1⟩ := h.knows f.there
    obtain ⟨k2, b2, g2, f2⟩ := h.knows f.back
    rw [f1, f2] at hq
    have G1 := Go.Lib.hid g1
    have G2 := Go.Lib.hid g2
    have F1 := Go.Lib.hid f1
    have F2 := Go.Lib.hid f2
    have HQ0 := Go.Lib.hid hq0
    clear rf g1 g2 f1 f2 hq0 hb
    by_cases hu : f.until_ ≤ s.now
    · have HQ : Hid (q = (s, 0, 14)) := Go.Lib.hid (by rw [← hq, if_pos hu])
      clear h hq
      go_enter Try.func9, Try.ntmps9
      go_upto_region 1 with fail
      generalize w.alloc (oFl f) = W at *
      have HX := Go.Lib.hid hbx
      clear hbx
      go_upto_region 3 with (first
        | (refine wpList_load_box rfl 40 _ rfl w.heap.size rfl (flL f) _ HX.out Try.underlying40 rfl info_fl ?_)
        | (go_at_call 29; refine (cmayBe12 f RF.out _ _ HB.out).mono ?_; rintro e w1 ⟨rfl, y1⟩; have HX1 := Go.Lib.hid (HX.out.keep y1 HX.out.lt); have HR1 := Go.Lib.hid (HR.out.call y1); have z1 := y0.trans (y1.mono y0.size); dsimp only))
      have HWD := Go.Lib.hid HR1.out.drew.whl
      have HC2 : Hid (∀ Y, Below w1.heap.size w1 Y → Y.cell? ⟨g, 2, none⟩ = some (.pointer (some wd))) := Go.Lib.hid (fun Y y => (HR1.out.box.keep y HR1.out.box.lt).cell 2 rfl)
      have HC10 : Hid (∀ Y, Below w1.heap.size w1 Y → Y.cell? ⟨w.heap.size, 10, none⟩ = some (.int .i64 f.until_)) := Go.Lib.hid (fun Y y => (HX1.out.keep y HX1.out.lt).cell 10 rfl)
      try simp only [Act.put, List.setIfInBounds_toArray, List.set_cons_zero, List.set_cons_succ]
      refine wp_region_held_drew (S := fun Y => Below w1.heap.size w1 Y) (by kernel_rfl) ?_ (fun hHeld => ?_)
      · exact below_drew (Below.refl _ _)
      refine wpAnyH_take (i := 0) (oi := ⟨some 14, _, _, _, _, _⟩) (v := ?_) rfl (by kernel_rfl) (by kernel_rfl) (by kernel_rfl) (fun _ _ _ h => h) (Or.inl ⟨by rfl, ?_⟩) (by assumption) ?_
      rotate_left
      · intro w hSw; (try dsimp only at hSw); go_simp; (try with_reducible rfl)
      try simp only [Act.put, List.setIfInBounds_toArray, List.set_cons_zero, List.set_cons_succ]
      refine wpAnyH_take (i := 1) (oi := ⟨some 15, _, _, _, _, _⟩) (v := ?_) rfl (by kernel_rfl) (by kernel_rfl) (by kernel_rfl) (fun _ _ _ h => h) (Or.inl ⟨by rfl, ?_⟩) (by assumption) ?_
      rotate_left
      · intro w hSw; have zc := HC10.out _ hSw; (try dsimp only at hSw); go_simp; (try with_reducible rfl)
      try simp only [Act.put, List.setIfInBounds_toArray, List.set_cons_zero, List.set_cons_succ]
      refine wpAnyH_take (i := 2) (oi := ⟨some 16, _, _, _, _, _⟩) (v := ?_) rfl (by kernel_rfl) (by kernel_rfl) (by kernel_rfl) (fun _ _ _ h => h) (Or.inl ⟨by rfl, ?_⟩) (by assumption) ?_
      rotate_left
      · intro w hSw; (try dsimp only at hSw); go_simp; (try with_reducible rfl)
      try simp only [Act.put, List.setIfInBounds_toArray, List.set_cons_zero, List.set_cons_succ]
      refine wpAnyH_take (i := 3) (oi := ⟨some 17, _, _, _, _, _⟩) (v := ?_) rfl (by kernel_rfl) (by kernel_rfl) (by kernel_rfl) (fun _ _ _ h => h) (Or.inl ⟨by rfl, ?_⟩) (by assumption) ?_
      rotate_left
      · intro w hSw; (try dsimp only at hSw); go_simp; (try with_reducible rfl)
      try simp only [Act.put, List.setIfInBounds_toArray, List.set_cons_zero, List.set_cons_succ]
      refine wpAnyH_take (i := 4) (oi := ⟨some 18, _, _, _, _, _⟩) (v := ?_) rfl (by kernel_rfl) (by kernel_rfl) (by kernel_rfl) (fun _ _ _ h => h) (Or.inl ⟨by rfl, ?_⟩) (by assumption) ?_
      rotate_left
      · intro w hSw; (try dsimp only at hSw); go_simp; (try with_reducible rfl)
      try simp only [Act.put, List.setIfInBounds_toArray, List.set_cons_zero, List.set_cons_succ]
      refine wpAnyH_take (i := 5) (oi := ⟨some 19, _, _, _, _, _⟩) (v := ?_) rfl (by kernel_rfl) (by kernel_rfl) (by kernel_rfl) (fun _ _ _ h => h) (Or.inl ⟨by rfl, ?_⟩) (by assumption) ?_
      rotate_left
      · intro w hSw; have zc := HC2.out _ hSw; (try dsimp only at hSw); go_simp; (try with_reducible rfl)
      try simp only [Act.put, List.setIfInBounds_toArray, List.set_cons_zero, List.set_cons_succ]
      refine wpAnyH_ready (rs := [6]) (by kernel_rfl) (by simp) (AllReadyH.cons (o := ⟨some 20, _, _, _, _, _⟩) rfl (fun Kc hKc => ?_) AllReadyH.nil)
      go_simp
      go_at_call 30; refine (kWheel.now_ HWD.out s.now HNOW.out).mono ?_; rintro e w3 ⟨rfl, y3⟩; dsimp only
      refine hKc.out _ _ (hHeld.trans (y3.mono hHeld.size)) (fun hHeld => ?_)
      clear hKc Kc
      try simp only [Act.put, List.setIfInBounds_toArray, List.set_cons_zero, List.set_cons_succ]
      refine wpAnyH_take (i := 7) (oi := ⟨some 21, _, _, _, _, _⟩) (v := ?_) rfl (by kernel_rfl) (by kernel_rfl) (by kernel_rfl) (fun _ _ _ h => h) (Or.inl ⟨by rfl, ?_⟩) (by assumption) ?_
      rotate_left
      · intro w hSw; (try dsimp only at hSw); go_simp; (try with_reducible rfl)
      try simp only [Act.put, List.setIfInBounds_toArray, List.set_cons_zero, List.set_cons_succ]
      refine wpAnyH_done (by kernel_rfl) ?_ _
      have y3 := hHeld
      clear hHeld
      have HX3 := Go.Lib.hid (HX1.out.keep y3 HX1.out.lt)
      have HR3 := Go.Lib.hid (HR1.out.call y3)
      have z3 := z1.trans (y3.mono z1.size)
      clear HWD HC2 HC10 HX1 HR1 HX HR
      go_wp2
      refine bodyPost_ret (v := .tuple #[.int .i64 0, .int .i64 14]) ?_ rfl ⟨by rw [HQ.out], by rw [HQ.out]; exact HH.out.stay z3⟩
      simp [results, Try.results9, go_sem]
    · rw [if_neg hu] at hq
      cases b1
      · cases b2
        · rw [if_neg (by simp)] at hq
          cases hf : freeF s.slots with
          | none =>
            have HQ : Hid (q = (s, 0, 8)) := Go.Lib.hid (by rw [← hq, hf])
            have HLN : Hid ((x.list.length : Int) = (n : Int)) := Go.Lib.hid (by rw [h.whs.len, cnt_all, free_cnt hf, h.mem.len])
            have tl : ((n : Int) == (n : Int)) = true := by simp
            clear h hq hf
            go_enter Try.func9, Try.ntmps9
            go_upto_region 1 with fail
            generalize w.alloc (oFl f) = W at *
            have HX := Go.Lib.hid hbx
            clear hbx
            go_upto_region 3 with (first
              | (refine wpList_load_box rfl 40 _ rfl w.heap.size rfl (flL f) _ HX.out Try.underlying40 rfl info_fl ?_)
              | (go_at_call 29; refine (cmayBe12 f RF.out _ _ HB.out).mono ?_; rintro e w1 ⟨rfl, y1⟩; have HX1 := Go.Lib.hid (HX.out.keep y1 HX.out.lt); have HR1 := Go.Lib.hid (HR.out.call y1); have z1 := y0.trans (y1.mono y0.size); dsimp only))
            have HWD := Go.Lib.hid HR1.out.drew.whl
            have HC2 : Hid (∀ Y, Below w1.heap.size w1 Y → Y.cell? ⟨g, 2, none⟩ = some (.pointer (some wd))) := Go.Lib.hid (fun Y y => (HR1.out.box.keep y HR1.out.box.lt).cell 2 rfl)
            have HC10 : Hid (∀ Y, Below w1.heap.size w1 Y → Y.cell? ⟨w.heap.size, 10, none⟩ = some (.int .i64 f.until_)) := Go.Lib.hid (fun Y y => (HX1.out.keep y HX1.out.lt).cell 10 rfl)
            try simp only [Act.put, List.setIfInBounds_toArray, List.set_cons_zero, List.set_cons_succ]
            refine wp_region_held_drew (S := fun Y => Below w1.heap.size w1 Y) (by kernel_rfl) ?_ (fun hHeld => ?_)
            · exact below_drew (Below.refl _ _)
            refine wpAnyH_take (i := 0) (oi := ⟨some 14, _, _, _, _, _⟩) (v := ?_) rfl (by kernel_rfl) (by kernel_rfl) (by kernel_rfl) (fun _ _ _ h => h) (Or.inl ⟨by rfl, ?_⟩) (by assumption) ?_
            rotate_left
            · intro w hSw; (try dsimp only at hSw); go_simp; (try with_reducible rfl)
            try simp only [Act.put, List.setIfInBounds_toArray, List.set_cons_zero, List.set_cons_succ]
            refine wpAnyH_take (i := 1) (oi := ⟨some 15, _, _, _, _, _⟩) (v := ?_) rfl (by kernel_rfl) (by kernel_rfl) (by kernel_rfl) (fun _ _ _ h => h) (Or.inl ⟨by rfl, ?_⟩) (by assumption) ?_
            rotate_left
            · intro w hSw; have zc := HC10.out _ hSw; (try dsimp only at hSw); go_simp; (try with_reducible rfl)
            try simp only [Act.put, List.setIfInBounds_toArray, List.set_cons_zero, List.set_cons_succ]
            refine wpAnyH_take (i := 2) (oi := ⟨some 16, _, _, _, _, _⟩) (v := ?_) rfl (by kernel_rfl) (by kernel_rfl) (by kernel_rfl) (fun _ _ _ h => h) (Or.inl ⟨by rfl, ?_⟩) (by assumption) ?_
            rotate_left
            · intro w hSw; (try dsimp only at hSw); go_simp; (try with_reducible rfl)
            try simp only [Act.put, List.setIfInBounds_toArray, List.set_cons_zero, List.set_cons_succ]
            refine wpAnyH_take (i := 3) (oi := ⟨some 17, _, _, _, _, _⟩) (v := ?_) rfl (by kernel_rfl) (by kernel_rfl) (by kernel_rfl) (fun _ _ _ h => h) (Or.inl ⟨by rfl, ?_⟩) (by assumption) ?_
            rotate_left
            · intro w hSw; (try dsimp only at hSw); go_simp; (try with_reducible rfl)
            try simp only [Act.put, List.setIfInBounds_toArray, List.set_cons_zero, List.set_cons_succ]
            refine wpAnyH_take (i := 4) (oi := ⟨some 18, _, _, _, _, _⟩) (v := ?_) rfl (by kernel_rfl) (by kernel_rfl) (by kernel_rfl) (fun _ _ _ h => h) (Or.inl ⟨by rfl, ?_⟩) (by assumption) ?_
            rotate_left
            · intro w hSw; (try dsimp only at hSw); go_simp; (try with_reducible rfl)
            try simp only [Act.put, List.setIfInBounds_toArray, List.set_cons_zero, List.set_cons_succ]
            refine wpAnyH_take (i := 5) (oi := ⟨some 19, _, _, _, _, _⟩) (v := ?_) rfl (by kernel_rfl) (by kernel_rfl) (by kernel_rfl) (fun _ _ _ h => h) (Or.inl ⟨by rfl, ?_⟩) (by assumption) ?_
            rotate_left
            · intro w hSw; have zc := HC2.out _ hSw; (try dsimp only at hSw); go_simp; (try with_reducible rfl)
            try simp only [Act.put, List.setIfInBounds_toArray, List.set_cons_zero, List.set_cons_succ]
            refine wpAnyH_ready (rs := [6]) (by kernel_rfl) (by simp) (AllReadyH.cons (o := ⟨some 20, _, _, _, _, _⟩) rfl (fun Kc hKc => ?_) AllReadyH.nil)
            go_simp
            go_at_call 30; refine (kWheel.now_ HWD.out s.now HNOW.out).mono ?_; rintro e w3 ⟨rfl, y3⟩; dsimp only
            refine hKc.out _ _ (hHeld.trans (y3.mono hHeld.size)) (fun hHeld => ?_)
            clear hKc Kc
            try simp only [Act.put, List.setIfInBounds_toArray, List.set_cons_zero, List.set_cons_succ]
            refine wpAnyH_take (i := 7) (oi := ⟨some 21, _, _, _, _, _⟩) (v := ?_) rfl (by kernel_rfl) (by kernel_rfl) (by kernel_rfl) (fun _ _ _ h => h) (Or.inl ⟨by rfl, ?_⟩) (by assumption) ?_
            rotate_left
            · intro w hSw; (try dsimp only at hSw); go_simp; (try with_reducible rfl)
            try simp only [Act.put, List.setIfInBounds_toArray, List.set_cons_zero, List.set_cons_succ]
            refine wpAnyH_done (by kernel_rfl) ?_ _
            have y3 := hHeld
            clear hHeld
            have HX3 := Go.Lib.hid (HX1.out.keep y3 HX1.out.lt)
            have HR3 := Go.Lib.hid (HR1.out.call y3)
            have z3 := z1.trans (y3.mono z1.size)
            clear HWD HC2 HC10 HX1 HR1 HX HR
            go_upto_region 7 with (first
              | (go_at_call_of 31 (Value.agg (tpL f.there).toArray); refine (cknows HR3.out HH.out.size.2 f.there RF.out.there _ G1.out).mono ?_; rintro e w4 ⟨rfl, y4⟩; have HX4 := Go.Lib.hid (HX3.out.keep y4 HX3.out.lt); have HR4 := Go.Lib.hid (HR3.out.call y4); have z4 := z3.trans (y4.mono z3.size); dsimp only)
              | (go_at_call_of 31 (Value.agg (tpL f.back).toArray); refine (cknows HR4.out HH.out.size.2 f.back RF.out.back _ G2.out).mono ?_; rintro e w5 ⟨rfl, y5⟩; have HX5 := Go.Lib.hid (HX4.out.keep y5 HX4.out.lt); have HR5 := Go.Lib.hid (HR4.out.call y5); have z5 := z4.trans (y5.mono z4.size); dsimp only)
              | (refine wpList_load_at rfl 38 _ rfl ⟨w.heap.size, 0, none⟩ rfl (tpL f.there) _ HX3.out.there Try.underlying38 rfl info_tp ?_)
              | (refine wpList_load_at rfl 38 _ rfl ⟨w.heap.size, 5, none⟩ rfl (tpL f.back) _ HX4.out.back Try.underlying38 rfl info_tp ?_))
            have HC0 : Hid (∀ Y, Below w5.heap.size w5 Y → Y.cell? ⟨g, 0, none⟩ = some (.slice (some ⟨sb, 0, none⟩) n n)) := Go.Lib.hid (fun Y y => (HR5.out.box.keep y HR5.out.box.lt).cell 0 rfl)
            try simp only [Act.put, List.setIfInBounds_toArray, List.set_cons_zero, List.set_cons_succ]
            refine wp_region_held_drew (S := fun Y => Below w5.heap.size w5 Y) (by kernel_rfl) ?_ (fun hHeld => ?_)
            · exact below_drew (Below.refl _ _)
            refine wpAnyH_take (i := 0) (oi := ⟨some 32, _, _, _, _, _⟩) (v := ?_) rfl (by kernel_rfl) (by kernel_rfl) (by kernel_rfl) (fun _ _ _ h => h) (Or.inl ⟨by rfl, ?_⟩) (by assumption) ?_
            rotate_left
            · intro w hSw; (try dsimp only at hSw); go_simp; (try with_reducible rfl)
            try simp only [Act.put, List.setIfInBounds_toArray, List.set_cons_zero, List.set_cons_succ]
            refine wpAnyH_take (i := 2) (oi := ⟨some 34, _, _, _, _, _⟩) (v := ?_) rfl (by kernel_rfl) (by kernel_rfl) (by kernel_rfl) (fun _ _ _ h => h) (Or.inl ⟨by rfl, ?_⟩) (by assumption) ?_
            rotate_left
            · intro w hSw; (try dsimp only at hSw); go_simp; (try with_reducible rfl)
            try simp only [Act.put, List.setIfInBounds_toArray, List.set_cons_zero, List.set_cons_succ]
            refine wpAnyH_take (i := 3) (oi := ⟨some 35, _, _, _, _, _⟩) (v := ?_) rfl (by kernel_rfl) (by kernel_rfl) (by kernel_rfl) (fun _ _ _ h => h) (Or.inl ⟨by rfl, ?_⟩) (by assumption) ?_
            rotate_left
            · intro w hSw; (try dsimp only at hSw); go_simp; (try with_reducible rfl)
            try simp only [Act.put, List.setIfInBounds_toArray, List.set_cons_zero, List.set_cons_succ]
            refine wpAnyH_take (i := 4) (oi := ⟨some 36, _, _, _, _, _⟩) (v := ?_) rfl (by kernel_rfl) (by kernel_rfl) (by kernel_rfl) (fun _ _ _ h => h) (Or.inl ⟨by rfl, ?_⟩) (by assumption) ?_
            rotate_left
            · intro w hSw; (try dsimp only at hSw); go_simp; (try with_reducible rfl)
            try simp only [Act.put, List.setIfInBounds_toArray, List.set_cons_zero, List.set_cons_succ]
            refine wpAnyH_take (i := 5) (oi := ⟨some 37, _, _, _, _, _⟩) (v := ?_) rfl (by kernel_rfl) (by kernel_rfl) (by kernel_rfl) (fun _ _ _ h => h) (Or.inl ⟨by rfl, ?_⟩) (by assumption) ?_
            rotate_left
            · intro w hSw; have zc := HC0.out _ hSw; (try dsimp only at hSw); go_simp; (try with_reducible rfl)
            try simp only [Act.put, List.setIfInBounds_toArray, List.set_cons_zero, List.set_cons_succ]
            refine wpAnyH_take (i := 6) (oi := ⟨some 38, _, _, _, _, _⟩) (v := ?_) rfl (by kernel_rfl) (by kernel_rfl) (by kernel_rfl) (fun _ _ _ h => h) (Or.inl ⟨by rfl, ?_⟩) (by assumption) ?_
            rotate_left
            · intro w hSw; (try dsimp only at hSw); go_simp; (try with_reducible rfl)
            try simp only [Act.put, List.setIfInBounds_toArray, List.set_cons_zero, List.set_cons_succ]
            refine wpAnyH_ready (rs := [1]) (by kernel_rfl) (by simp) (AllReadyH.cons (o := ⟨some 33, _, _, _, _, _⟩) rfl (fun Kc hKc => ?_) AllReadyH.nil)
            go_simp
            go_at_call 16; refine (clen12 HR5.out.drew _ HLN.out).mono ?_; rintro e w6 ⟨rfl, y6⟩; dsimp only
            refine hKc.out _ _ (hHeld.trans (y6.mono hHeld.size)) (fun hHeld => ?_)
            clear hKc Kc
            try simp only [Act.put, List.setIfInBounds_toArray, List.set_cons_zero, List.set_cons_succ]
            refine wpAnyH_take (i := 7) (oi := ⟨some 39, _, _, _, _, _⟩) (v := ?_) rfl (by kernel_rfl) (by kernel_rfl) (by kernel_rfl) (fun _ _ _ h => h) (Or.inl ⟨by rfl, ?_⟩) (by assumption) ?_
            rotate_left
            · intro w hSw; (try dsimp only at hSw); go_simp; (try with_reducible rfl)
            try simp only [Act.put, List.setIfInBounds_toArray, List.set_cons_zero, List.set_cons_succ]
            refine wpAnyH_done (by kernel_rfl) ?_ _
            have y6 := hHeld
            clear hHeld
            have HX6 := Go.Lib.hid (HX5.out.keep y6 HX5.out.lt)
            have HR6 := Go.Lib.hid (HR5.out.call y6)
            have z6 := z5.trans (y6.mono z5.size)
            clear HC0 HX5 HR5
            go_wp2
            refine bodyPost_ret (v := .tuple #[.int .i64 0, .int .i64 8]) ?_ rfl ⟨by rw [HQ.out], by rw [HQ.out]; exact HH.out.stay z6⟩
            simp [results, Try.results9, go_sem]
          | some i =>
            have HQ : Hid (q = (⟨s.slots.set i (some f), s.now⟩, (i : Int), 0)) := Go.Lib.hid (by rw [← hq, hf])
            have HRS : Hid (RightS q.1) := Go.Lib.hid (by rw [← HQ0.out]; exact h.right.add f)
            obtain ⟨p, hp⟩ : ∃ p, cntF s.slots = p := ⟨_, rfl⟩
            have hpn : p < n := by have := free_less hf; rw [hp, h.mem.len] at this; exact this
            have HLN : Hid ((x.list.length : Int) = (p : Int)) := Go.Lib.hid (by rw [h.whs.len, cnt_all, hp])
            have tl : ((p : Int) == (n : Int)) = false := by simp; omega
            have hi : i < n := by have := (freeF_some hf).1; rw [h.mem.len] at this; exact this
            obtain ⟨T1, T2, e1, e2, l1, hT⟩ := h.tabs.add h.right HB.out (by have := F1.out; simpa using this) (by have := F2.out; simpa using this) hf (by rw [h.mem.len]; exact h.size.1)
            have hm := (mayF_iff f).1 HB.out
            obtain ⟨X, eX, hX⟩ := h.whs.add h.right (freeF_some hf).1 (freeF_some hf).2.1 (show s.now < f.until_ by omega) hm.2.2.2
            have HTB := Go.Lib.hid hT
            have HTK := Go.Lib.hid (⟨e1, l1, e2⟩ : putC t f.there (2 * (i : Int)) = (T1, 0) ∧ T1.length = N ∧ putC T1 f.back (2 * (i : Int) + 1) = (T2, 0))
            have EX := Go.Lib.hid eX
            have HXS := Go.Lib.hid hX
            have HF := Go.Lib.hid hf
            have HWH : Hid (∀ num, ∃ a, whenH x num = (a, (thereF ⟨s.slots, x.now⟩ num).isSome)) := Go.Lib.hid (fun num => h.whs.when num)
            clear h hq hf hp e1 e2 l1 hT eX hX hm
            go_enter Try.func9, Try.ntmps9
            go_upto_region 1 with fail
            generalize w.alloc (oFl f) = W at *
            have HX := Go.Lib.hid hbx
            clear hbx
            go_upto_region 3 with (first
              | (refine wpList_load_box rfl 40 _ rfl w.heap.size rfl (flL f) _ HX.out Try.underlying40 rfl info_fl ?_)
              | (go_at_call 29; refine (cmayBe12 f RF.out _ _ HB.out).mono ?_; rintro e w1 ⟨rfl, y1⟩; have HX1 := Go.Lib.hid (HX.out.keep y1 HX.out.lt); have HR1 := Go.Lib.hid (HR.out.call y1); have z1 := y0.trans (y1.mono y0.size); dsimp only))
            have HWD := Go.Lib.hid HR1.out.drew.whl
            have HC2 : Hid (∀ Y, Below w1.heap.size w1 Y → Y.cell? ⟨g, 2, none⟩ = some (.pointer (some wd))) := Go.Lib.hid (fun Y y => (HR1.out.box.keep y HR1.out.box.lt).cell 2 rfl)
            have HC10 : Hid (∀ Y, Below w1.heap.size w1 Y → Y.cell? ⟨w.heap.size, 10, none⟩ = some (.int .i64 f.until_)) := Go.Lib.hid (fun Y y => (HX1.out.keep y HX1.out.lt).cell 10 rfl)
            try simp only [Act.put, List.setIfInBounds_toArray, List.set_cons_zero, List.set_cons_succ]
            refine wp_region_held_drew (S := fun Y => Below w1.heap.size w1 Y) (by kernel_rfl) ?_ (fun hHeld => ?_)
            · exact below_drew (Below.refl _ _)
            refine wpAnyH_take (i := 0) (oi := ⟨some 14, _, _, _, _, _⟩) (v := ?_) rfl (by kernel_rfl) (by kernel_rfl) (by kernel_rfl) (fun _ _ _ h => h) (Or.inl ⟨by rfl, ?_⟩) (by assumption) ?_
            rotate_left
            · intro w hSw; (try dsimp only at hSw); go_simp; (try with_reducible rfl)
            try simp only [Act.put, List.setIfInBounds_toArray, List.set_cons_zero, List.set_cons_succ]
            refine wpAnyH_take (i := 1) (oi := ⟨some 15, _, _, _, _, _⟩) (v := ?_) rfl (by kernel_rfl) (by kernel_rfl) (by kernel_rfl) (fun _ _ _ h => h) (Or.inl ⟨by rfl, ?_⟩) (by assumption) ?_
            rotate_left
            · intro w hSw; have zc := HC10.out _ hSw; (try dsimp only at hSw); go_simp; (try with_reducible rfl)
            try simp only [Act.put, List.setIfInBounds_toArray, List.set_cons_zero, List.set_cons_succ]
            refine wpAnyH_take (i := 2) (oi := ⟨some 16, _, _, _, _, _⟩) (v := ?_) rfl (by kernel_rfl) (by kernel_rfl) (by kernel_rfl) (fun _ _ _ h => h) (Or.inl ⟨by rfl, ?_⟩) (by assumption) ?_
            rotate_left
            · intro w hSw; (try dsimp only at hSw); go_simp; (try with_reducible rfl)
            try simp only [Act.put, List.setIfInBounds_toArray, List.set_cons_zero, List.set_cons_succ]
            refine wpAnyH_take (i := 3) (oi := ⟨some 17, _, _, _, _, _⟩) (v := ?_) rfl (by kernel_rfl) (by kernel_rfl) (by kernel_rfl) (fun _ _ _ h => h) (Or.inl ⟨by rfl, ?_⟩) (by assumption) ?_
            rotate_left
            · intro w hSw; (try dsimp only at hSw); go_simp; (try with_reducible rfl)
            try simp only [Act.put, List.setIfInBounds_toArray, List.set_cons_zero, List.set_cons_succ]
            refine wpAnyH_take (i := 4) (oi := ⟨some 18, _, _, _, _, _⟩) (v := ?_) rfl (by kernel_rfl) (by kernel_rfl) (by kernel_rfl) (fun _ _ _ h => h) (Or.inl ⟨by rfl, ?_⟩) (by assumption) ?_
            rotate_left
            · intro w hSw; (try dsimp only at hSw); go_simp; (try with_reducible rfl)
            try simp only [Act.put, List.setIfInBounds_toArray, List.set_cons_zero, List.set_cons_succ]
            refine wpAnyH_take (i := 5) (oi := ⟨some 19, _, _, _, _, _⟩) (v := ?_) rfl (by kernel_rfl) (by kernel_rfl) (by kernel_rfl) (fun _ _ _ h => h) (Or.inl ⟨by rfl, ?_⟩) (by assumption) ?_
            rotate_left
            · intro w hSw; have zc := HC2.out _ hSw; (try dsimp only at hSw); go_simp; (try with_reducible rfl)
            try simp only [Act.put, List.setIfInBounds_toArray, List.set_cons_zero, List.set_cons_succ]
            refine wpAnyH_ready (rs := [6]) (by kernel_rfl) (by simp) (AllReadyH.cons (o := ⟨some 20, _, _, _, _, _⟩) rfl (fun Kc hKc => ?_) AllReadyH.nil)
            go_simp
            go_at_call 30; refine (kWheel.now_ HWD.out s.now HNOW.out).mono ?_; rintro e w3 ⟨rfl, y3⟩; dsimp only
            refine hKc.out _ _ (hHeld.trans (y3.mono hHeld.size)) (fun hHeld => ?_)
            clear hKc Kc
            try simp only [Act.put, List.setIfInBounds_toArray, List.set_cons_zero, List.set_cons_succ]
            refine wpAnyH_take (i := 7) (oi := ⟨some 21, _, _, _, _, _⟩) (v := ?_) rfl (by kernel_rfl) (by kernel_rfl) (by kernel_rfl) (fun _ _ _ h => h) (Or.inl ⟨by rfl, ?_⟩) (by assumption) ?_
            rotate_left
            · intro w hSw; (try dsimp only at hSw); go_simp; (try with_reducible rfl)
            try simp only [Act.put, List.setIfInBounds_toArray, List.set_cons_zero, List.set_cons_succ]
            refine wpAnyH_done (by kernel_rfl) ?_ _
            have y3 := hHeld
            clear hHeld
            have HX3 := Go.Lib.hid (HX1.out.keep y3 HX1.out.lt)
            have HR3 := Go.Lib.hid (HR1.out.call y3)
            have z3 := z1.trans (y3.mono z1.size)
            clear HWD HC2 HC10 HX1 HR1 HX HR
            go_upto_region 7 with (first
              | (go_at_call_of 31 (Value.agg (tpL f.there).toArray); refine (cknows HR3.out HH.out.size.2 f.there RF.out.there _ G1.out).mono ?_; rintro e w4 ⟨rfl, y4⟩; have HX4 := Go.Lib.hid (HX3.out.keep y4 HX3.out.lt); have HR4 := Go.Lib.hid (HR3.out.call y4); have z4 := z3.trans (y4.mono z3.size); dsimp only)
              | (go_at_call_of 31 (Value.agg (tpL f.back).toArray); refine (cknows HR4.out HH.out.size.2 f.back RF.out.back _ G2.out).mono ?_; rintro e w5 ⟨rfl, y5⟩; have HX5 := Go.Lib.hid (HX4.out.keep y5 HX4.out.lt); have HR5 := Go.Lib.hid (HR4.out.call y5); have z5 := z4.trans (y5.mono z4.size); dsimp only)
              | (refine wpList_load_at rfl 38 _ rfl ⟨w.heap.size, 0, none⟩ rfl (tpL f.there) _ HX3.out.there Try.underlying38 rfl info_tp ?_)
              | (refine wpList_load_at rfl 38 _ rfl ⟨w.heap.size, 5, none⟩ rfl (tpL f.back) _ HX4.out.back Try.underlying38 rfl info_tp ?_))
            have HC0 : Hid (∀ Y, Below w5.heap.size w5 Y → Y.cell? ⟨g, 0, none⟩ = some (.slice (some ⟨sb, 0, none⟩) n n)) := Go.Lib.hid (fun Y y => (HR5.out.box.keep y HR5.out.box.lt).cell 0 rfl)
            try simp only [Act.put, List.setIfInBounds_toArray, List.set_cons_zero, List.set_cons_succ]
            refine wp_region_held_drew (S := fun Y => Below w5.heap.size w5 Y) (by kernel_rfl) ?_ (fun hHeld => ?_)
            · exact below_drew (Below.refl _ _)
            refine wpAnyH_take (i := 0) (oi := ⟨some 32, _, _, _, _, _⟩) (v := ?_) rfl (by kernel_rfl) (by kernel_rfl) (by kernel_rfl) (fun _ _ _ h => h) (Or.inl ⟨by rfl, ?_⟩) (by assumption) ?_
            rotate_left
            · intro w hSw; (try dsimp only at hSw); go_simp; (try with_reducible rfl)
            try simp only [Act.put, List.setIfInBounds_toArray, List.set_cons_zero, List.set_cons_succ]
            refine wpAnyH_take (i := 2) (oi := ⟨some 34, _, _, _, _, _⟩) (v := ?_) rfl (by kernel_rfl) (by kernel_rfl) (by kernel_rfl) (fun _ _ _ h => h) (Or.inl ⟨by rfl, ?_⟩) (by assumption) ?_
            rotate_left
            · intro w hSw; (try dsimp only at hSw); go_simp; (try with_reducible rfl)
            try simp only [Act.put, List.setIfInBounds_toArray, List.set_cons_zero, List.set_cons_succ]
            refine wpAnyH_take (i := 3) (oi := ⟨some 35, _, _, _, _, _⟩) (v := ?_) rfl (by kernel_rfl) (by kernel_rfl) (by kernel_rfl) (fun _ _ _ h => h) (Or.inl ⟨by rfl, ?_⟩) (by assumption) ?_
            rotate_left
            · intro w hSw; (try dsimp only at hSw); go_simp; (try with_reducible rfl)
            try simp only [Act.put, List.setIfInBounds_toArray, List.set_cons_zero, List.set_cons_succ]
            refine wpAnyH_take (i := 4) (oi := ⟨some 36, _, _, _, _, _⟩) (v := ?_) rfl (by kernel_rfl) (by kernel_rfl) (by kernel_rfl) (fun _ _ _ h => h) (Or.inl ⟨by rfl, ?_⟩) (by assumption) ?_
            rotate_left
            · intro w hSw; (try dsimp only at hSw); go_simp; (try with_reducible rfl)
            try simp only [Act.put, List.setIfInBounds_toArray, List.set_cons_zero, List.set_cons_succ]
            refine wpAnyH_take (i := 5) (oi := ⟨some 37, _, _, _, _, _⟩) (v := ?_) rfl (by kernel_rfl) (by kernel_rfl) (by kernel_rfl) (fun _ _ _ h => h) (Or.inl ⟨by rfl, ?_⟩) (by assumption) ?_
            rotate_left
            · intro w hSw; have zc := HC0.out _ hSw; (try dsimp only at hSw); go_simp; (try with_reducible rfl)
            try simp only [Act.put, List.setIfInBounds_toArray, List.set_cons_zero, List.set_cons_succ]
            refine wpAnyH_take (i := 6) (oi := ⟨some 38, _, _, _, _, _⟩) (v := ?_) rfl (by kernel_rfl) (by kernel_rfl) (by kernel_rfl) (fun _ _ _ h => h) (Or.inl ⟨by rfl, ?_⟩) (by assumption) ?_
            rotate_left
            · intro w hSw; (try dsimp only at hSw); go_simp; (try with_reducible rfl)
            try simp only [Act.put, List.setIfInBounds_toArray, List.set_cons_zero, List.set_cons_succ]
            refine wpAnyH_ready (rs := [1]) (by kernel_rfl) (by simp) (AllReadyH.cons (o := ⟨some 33, _, _, _, _, _⟩) rfl (fun Kc hKc => ?_) AllReadyH.nil)
            go_simp
            go_at_call 16; refine (clen12 HR5.out.drew _ HLN.out).mono ?_; rintro e w6 ⟨rfl, y6⟩; dsimp only
            refine hKc.out _ _ (hHeld.trans (y6.mono hHeld.size)) (fun hHeld => ?_)
            clear hKc Kc
            try simp only [Act.put, List.setIfInBounds_toArray, List.set_cons_zero, List.set_cons_succ]
            refine wpAnyH_take (i := 7) (oi := ⟨some 39, _, _, _, _, _⟩) (v := ?_) rfl (by kernel_rfl) (by kernel_rfl) (by kernel_rfl) (fun _ _ _ h => h) (Or.inl ⟨by rfl, ?_⟩) (by assumption) ?_
            rotate_left
            · intro w hSw; (try dsimp only at hSw); go_simp; (try with_reducible rfl)
            try simp only [Act.put, List.setIfInBounds_toArray, List.set_cons_zero, List.set_cons_succ]
            refine wpAnyH_done (by kernel_rfl) ?_ _
            have y6 := hHeld
            clear hHeld
            have HX6 := Go.Lib.hid (HX5.out.keep y6 HX5.out.lt)
            have HR6 := Go.Lib.hid (HR5.out.call y6)
            have z6 := z5.trans (y6.mono z5.size)
            clear HC0 HX5 HR5
            go_wp2_with (first
              | (go_at_call 32; refine (cfree HR6.out HWH.out hn i HF.out).mono ?_; rintro e w7 ⟨rfl, y7⟩; have HX7 := Go.Lib.hid (HX6.out.keep y7 HX6.out.lt); have HR7 := Go.Lib.hid (HR6.out.call y7); have z7 := z6.trans (y7.mono z6.size); dsimp only)
              | (refine wpList_load_box rfl 40 _ rfl w.heap.size rfl (flL f) _ HX7.out Try.underlying40 rfl info_fl ?_)
              | (go_at_call 33; refine (cputF HR7.out HH.out.size.2 hn i hi f RF.out T1 T2 HTK.out.1 HTK.out.2.1 HTK.out.2.2 HTB.out.len X EX.out).mono ?_; rintro e w8 ⟨rfl, T8, c8, F8, r8, n8, m8⟩; have HR8 := Go.Lib.hid r8; have HN8 := Go.Lib.hid n8; have HM8 := Go.Lib.hid m8; clear r8 n8 m8; dsimp only))
            refine bodyPost_ret (v := .tuple #[.int .i64 (i : Int), .int .i64 0]) ?_ rfl ⟨by rw [HQ.out], ?_⟩
            · simp [results, Try.results9, go_sem]
            · have hr := HRS.out
              rw [HQ.out] at hr ⊢
              refine ⟨T2, T8, c8, X, F8, ⟨HR8.out, HTB.out, HXS.out, hr, fun j f' hj => ?_, HH.out.size⟩, (Newer.same w _).next HN8.out z7.size, (moves_below z7).trans HM8.out⟩
              dsimp only at hj
              rw [slot_set (freeF_some HF.out).1] at hj
              split at hj
              · cases hj
                exact RF.out
              · exact HH.out.rng j f' hj
        · have HQ : Hid (q = (s, 0, 10)) := Go.Lib.hid (by rw [← hq]; rfl)
          clear h hq
          go_enter Try.func9, Try.ntmps9
          go_upto_region 1 with fail
          generalize w.alloc (oFl f) = W at *
          have HX := Go.Lib.hid hbx
          clear hbx
          go_upto_region 3 with (first
            | (refine wpList_load_box rfl 40 _ rfl w.heap.size rfl (flL f) _ HX.out Try.underlying40 rfl info_fl ?_)
            | (go_at_call 29; refine (cmayBe12 f RF.out _ _ HB.out).mono ?_; rintro e w1 ⟨rfl, y1⟩; have HX1 := Go.Lib.hid (HX.out.keep y1 HX.out.lt); have HR1 := Go.Lib.hid (HR.out.call y1); have z1 := y0.trans (y1.mono y0.size); dsimp only))
          have HWD := Go.Lib.hid HR1.out.drew.whl
          have HC2 : Hid (∀ Y, Below w1.heap.size w1 Y → Y.cell? ⟨g, 2, none⟩ = some (.pointer (some wd))) := Go.Lib.hid (fun Y y => (HR1.out.box.keep y HR1.out.box.lt).cell 2 rfl)
          have HC10 : Hid (∀ Y, Below w1.heap.size w1 Y → Y.cell? ⟨w.heap.size, 10, none⟩ = some (.int .i64 f.until_)) := Go.Lib.hid (fun Y y => (HX1.out.keep y HX1.out.lt).cell 10 rfl)
          try simp only [Act.put, List.setIfInBounds_toArray, List.set_cons_zero, List.set_cons_succ]
          refine wp_region_held_drew (S := fun Y => Below w1.heap.size w1 Y) (by kernel_rfl) ?_ (fun hHeld => ?_)
          · exact below_drew (Below.refl _ _)
          refine wpAnyH_take (i := 0) (oi := ⟨some 14, _, _, _, _, _⟩) (v := ?_) rfl (by kernel_rfl) (by kernel_rfl) (by kernel_rfl) (fun _ _ _ h => h) (Or.inl ⟨by rfl, ?_⟩) (by assumption) ?_
          rotate_left
          · intro w hSw; (try dsimp only at hSw); go_simp; (try with_reducible rfl)
          try simp only [Act.put, List.setIfInBounds_toArray, List.set_cons_zero, List.set_cons_succ]
          refine wpAnyH_take (i := 1) (oi := ⟨some 15, _, _, _, _, _⟩) (v := ?_) rfl (by kernel_rfl) (by kernel_rfl) (by kernel_rfl) (fun _ _ _ h => h) (Or.inl ⟨by rfl, ?_⟩) (by assumption) ?_
          rotate_left
          · intro w hSw; have zc := HC10.out _ hSw; (try dsimp only at hSw); go_simp; (try with_reducible rfl)
          try simp only [Act.put, List.setIfInBounds_toArray, List.set_cons_zero, List.set_cons_succ]
          refine wpAnyH_take (i := 2) (oi := ⟨some 16, _, _, _, _, _⟩) (v := ?_) rfl (by kernel_rfl) (by kernel_rfl) (by kernel_rfl) (fun _ _ _ h => h) (Or.inl ⟨by rfl, ?_⟩) (by assumption) ?_
          rotate_left
          · intro w hSw; (try dsimp only at hSw); go_simp; (try with_reducible rfl)
          try simp only [Act.put, List.setIfInBounds_toArray, List.set_cons_zero, List.set_cons_succ]
          refine wpAnyH_take (i := 3) (oi := ⟨some 17, _, _, _, _, _⟩) (v := ?_) rfl (by kernel_rfl) (by kernel_rfl) (by kernel_rfl) (fun _ _ _ h => h) (Or.inl ⟨by rfl, ?_⟩) (by assumption) ?_
          rotate_left
          · intro w hSw; (try dsimp only at hSw); go_simp; (try with_reducible rfl)
          try simp only [Act.put, List.setIfInBounds_toArray, List.set_cons_zero, List.set_cons_succ]
          refine wpAnyH_take (i := 4) (oi := ⟨some 18, _, _, _, _, _⟩) (v := ?_) rfl (by kernel_rfl) (by kernel_rfl) (by kernel_rfl) (fun _ _ _ h => h) (Or.inl ⟨by rfl, ?_⟩) (by assumption) ?_
          rotate_left
          · intro w hSw; (try dsimp only at hSw); go_simp; (try with_reducible rfl)
          try simp only [Act.put, List.setIfInBounds_toArray, List.set_cons_zero, List.set_cons_succ]
          refine wpAnyH_take (i := 5) (oi := ⟨some 19, _, _, _, _, _⟩) (v := ?_) rfl (by kernel_rfl) (by kernel_rfl) (by kernel_rfl) (fun _ _ _ h => h) (Or.inl ⟨by rfl, ?_⟩) (by assumption) ?_
          rotate_left
          · intro w hSw; have zc := HC2.out _ hSw; (try dsimp only at hSw); go_simp; (try with_reducible rfl)
          try simp only [Act.put, List.setIfInBounds_toArray, List.set_cons_zero, List.set_cons_succ]
          refine wpAnyH_ready (rs := [6]) (by kernel_rfl) (by simp) (AllReadyH.cons (o := ⟨some 20, _, _, _, _, _⟩) rfl (fun Kc hKc => ?_) AllReadyH.nil)
          go_simp
          go_at_call 30; refine (kWheel.now_ HWD.out s.now HNOW.out).mono ?_; rintro e w3 ⟨rfl, y3⟩; dsimp only
          refine hKc.out _ _ (hHeld.trans (y3.mono hHeld.size)) (fun hHeld => ?_)
          clear hKc Kc
          try simp only [Act.put, List.setIfInBounds_toArray, List.set_cons_zero, List.set_cons_succ]
          refine wpAnyH_take (i := 7) (oi := ⟨some 21, _, _, _, _, _⟩) (v := ?_) rfl (by kernel_rfl) (by kernel_rfl) (by kernel_rfl) (fun _ _ _ h => h) (Or.inl ⟨by rfl, ?_⟩) (by assumption) ?_
          rotate_left
          · intro w hSw; (try dsimp only at hSw); go_simp; (try with_reducible rfl)
          try simp only [Act.put, List.setIfInBounds_toArray, List.set_cons_zero, List.set_cons_succ]
          refine wpAnyH_done (by kernel_rfl) ?_ _
          have y3 := hHeld
          clear hHeld
          have HX3 := Go.Lib.hid (HX1.out.keep y3 HX1.out.lt)
          have HR3 := Go.Lib.hid (HR1.out.call y3)
          have z3 := z1.trans (y3.mono z1.size)
          clear HWD HC2 HC10 HX1 HR1 HX HR
          go_wp2_with (first
            | (go_at_call_of 31 (Value.agg (tpL f.there).toArray); refine (cknows HR3.out HH.out.size.2 f.there RF.out.there _ G1.out).mono ?_; rintro e w4 ⟨rfl, y4⟩; have HX4 := Go.Lib.hid (HX3.out.keep y4 HX3.out.lt); have HR4 := Go.Lib.hid (HR3.out.call y4); have z4 := z3.trans (y4.mono z3.size); dsimp only)
            | (go_at_call_of 31 (Value.agg (tpL f.back).toArray); refine (cknows HR4.out HH.out.size.2 f.back RF.out.back _ G2.out).mono ?_; rintro e w5 ⟨rfl, y5⟩; have HX5 := Go.Lib.hid (HX4.out.keep y5 HX4.out.lt); have HR5 := Go.Lib.hid (HR4.out.call y5); have z5 := z4.trans (y5.mono z4.size); dsimp only)
            | (refine wpList_load_at rfl 38 _ rfl ⟨w.heap.size, 0, none⟩ rfl (tpL f.there) _ HX3.out.there Try.underlying38 rfl info_tp ?_)
            | (refine wpList_load_at rfl 38 _ rfl ⟨w.heap.size, 5, none⟩ rfl (tpL f.back) _ HX4.out.back Try.underlying38 rfl info_tp ?_))
          refine bodyPost_ret (v := .tuple #[.int .i64 0, .int .i64 10]) ?_ rfl ⟨by rw [HQ.out], by rw [HQ.out]; exact HH.out.stay z5⟩
          simp [results, Try.results9, go_sem]
      · have HQ : Hid (q = (s, 0, 10)) := Go.Lib.hid (by rw [← hq]; rfl)
        clear h hq
        go_enter Try.func9, Try.ntmps9
        go_upto_region 1 with fail
        generalize w.alloc (oFl f) = W at *
        have HX := Go.Lib.hid hbx
        clear hbx
        go_upto_region 3 with (first
          | (refine wpList_load_box rfl 40 _ rfl w.heap.size rfl (flL f) _ HX.out Try.underlying40 rfl info_fl ?_)
          | (go_at_call 29; refine (cmayBe12 f RF.out _ _ HB.out).mono ?_; rintro e w1 ⟨rfl, y1⟩; have HX1 := Go.Lib.hid (HX.out.keep y1 HX.out.lt); have HR1 := Go.Lib.hid (HR.out.call y1); have z1 := y0.trans (y1.mono y0.size); dsimp only))
        have HWD := Go.Lib.hid HR1.out.drew.whl
        have HC2 : Hid (∀ Y, Below w1.heap.size w1 Y → Y.cell? ⟨g, 2, none⟩ = some (.pointer (some wd))) := Go.Lib.hid (fun Y y => (HR1.out.box.keep y HR1.out.box.lt).cell 2 rfl)
        have HC10 : Hid (∀ Y, Below w1.heap.size w1 Y → Y.cell? ⟨w.heap.size, 10, none⟩ = some (.int .i64 f.until_)) := Go.Lib.hid (fun Y y => (HX1.out.keep y HX1.out.lt).cell 10 rfl)
        try simp only [Act.put, List.setIfInBounds_toArray, List.set_cons_zero, List.set_cons_succ]
        refine wp_region_held_drew (S := fun Y => Below w1.heap.size w1 Y) (by kernel_rfl) ?_ (fun hHeld => ?_)
        · exact below_drew (Below.refl _ _)
        refine wpAnyH_take (i := 0) (oi := ⟨some 14, _, _, _, _, _⟩) (v := ?_) rfl (by kernel_rfl) (by kernel_rfl) (by kernel_rfl) (fun _ _ _ h => h) (Or.inl ⟨by rfl, ?_⟩) (by assumption) ?_
        rotate_left
        · intro w hSw; (try dsimp only at hSw); go_simp; (try with_reducible rfl)
        try simp only [Act.put, List.setIfInBounds_toArray, List.set_cons_zero, List.set_cons_succ]
        refine wpAnyH_take (i := 1) (oi := ⟨some 15, _, _, _, _, _⟩) (v := ?_) rfl (by kernel_rfl) (by kernel_rfl) (by kernel_rfl) (fun _ _ _ h => h) (Or.inl ⟨by rfl, ?_⟩) (by assumption) ?_
        rotate_left
        · intro w hSw; have zc := HC10.out _ hSw; (try dsimp only at hSw); go_simp; (try with_reducible rfl)
        try simp only [Act.put, List.setIfInBounds_toArray, List.set_cons_zero, List.set_cons_succ]
        refine wpAnyH_take (i := 2) (oi := ⟨some 16, _, _, _, _, _⟩) (v := ?_) rfl (by kernel_rfl) (by kernel_rfl) (by kernel_rfl) (fun _ _ _ h => h) (Or.inl ⟨by rfl, ?_⟩) (by assumption) ?_
        rotate_left
        · intro w hSw; (try dsimp only at hSw); go_simp; (try with_reducible rfl)
        try simp only [Act.put, List.setIfInBounds_toArray, List.set_cons_zero, List.set_cons_succ]
        refine wpAnyH_take (i := 3) (oi := ⟨some 17, _, _, _, _, _⟩) (v := ?_) rfl (by kernel_rfl) (by kernel_rfl) (by kernel_rfl) (fun _ _ _ h => h) (Or.inl ⟨by rfl, ?_⟩) (by assumption) ?_
        rotate_left
        · intro w hSw; (try dsimp only at hSw); go_simp; (try with_reducible rfl)
        try simp only [Act.put, List.setIfInBounds_toArray, List.set_cons_zero, List.set_cons_succ]
        refine wpAnyH_take (i := 4) (oi := ⟨some 18, _, _, _, _, _⟩) (v := ?_) rfl (by kernel_rfl) (by kernel_rfl) (by kernel_rfl) (fun _ _ _ h => h) (Or.inl ⟨by rfl, ?_⟩) (by assumption) ?_
        rotate_left
        · intro w hSw; (try dsimp only at hSw); go_simp; (try with_reducible rfl)
        try simp only [Act.put, List.setIfInBounds_toArray, List.set_cons_zero, List.set_cons_succ]
        refine wpAnyH_take (i := 5) (oi := ⟨some 19, _, _, _, _, _⟩) (v := ?_) rfl (by kernel_rfl) (by kernel_rfl) (by kernel_rfl) (fun _ _ _ h => h) (Or.inl ⟨by rfl, ?_⟩) (by assumption) ?_
        rotate_left
        · intro w hSw; have zc := HC2.out _ hSw; (try dsimp only at hSw); go_simp; (try with_reducible rfl)
        try simp only [Act.put, List.setIfInBounds_toArray, List.set_cons_zero, List.set_cons_succ]
        refine wpAnyH_ready (rs := [6]) (by kernel_rfl) (by simp) (AllReadyH.cons (o := ⟨some 20, _, _, _, _, _⟩) rfl (fun Kc hKc => ?_) AllReadyH.nil)
        go_simp
        go_at_call 30; refine (kWheel.now_ HWD.out s.now HNOW.out).mono ?_; rintro e w3 ⟨rfl, y3⟩; dsimp only
        refine hKc.out _ _ (hHeld.trans (y3.mono hHeld.size)) (fun hHeld => ?_)
        clear hKc Kc
        try simp only [Act.put, List.setIfInBounds_toArray, List.set_cons_zero, List.set_cons_succ]
        refine wpAnyH_take (i := 7) (oi := ⟨some 21, _, _, _, _, _⟩) (v := ?_) rfl (by kernel_rfl) (by kernel_rfl) (by kernel_rfl) (fun _ _ _ h => h) (Or.inl ⟨by rfl, ?_⟩) (by assumption) ?_
        rotate_left
        · intro w hSw; (try dsimp only at hSw); go_simp; (try with_reducible rfl)
        try simp only [Act.put, List.setIfInBounds_toArray, List.set_cons_zero, List.set_cons_succ]
        refine wpAnyH_done (by kernel_rfl) ?_ _
        have y3 := hHeld
        clear hHeld
        have HX3 := Go.Lib.hid (HX1.out.keep y3 HX1.out.lt)
        have HR3 := Go.Lib.hid (HR1.out.call y3)
        have z3 := z1.trans (y3.mono z1.size)
        clear HWD HC2 HC10 HX1 HR1 HX HR
        go_wp2_with (first
          | (go_at_call_of 31 (Value.agg (tpL f.there).toArray); refine (cknows HR3.out HH.out.size.2 f.there RF.out.there _ G1.out).mono ?_; rintro e w4 ⟨rfl, y4⟩; have HX4 := Go.Lib.hid (HX3.out.keep y4 HX3.out.lt); have HR4 := Go.Lib.hid (HR3.out.call y4); have z4 := z3.trans (y4.mono z3.size); dsimp only)
          | (go_at_call_of 31 (Value.agg (tpL f.back).toArray); refine (cknows HR4.out HH.out.size.2 f.back RF.out.back _ G2.out).mono ?_; rintro e w5 ⟨rfl, y5⟩; have HX5 := Go.Lib.hid (HX4.out.keep y5 HX4.out.lt); have HR5 := Go.Lib.hid (HR4.out.call y5); have z5 := z4.trans (y5.mono z4.size); dsimp only)
          | (refine wpList_load_at rfl 38 _ rfl ⟨w.heap.size, 0, none⟩ rfl (tpL f.there) _ HX3.out.there Try.underlying38 rfl info_tp ?_)
          | (refine wpList_load_at rfl 38 _ rfl ⟨w.heap.size, 5, none⟩ rfl (tpL f.back) _ HX4.out.back Try.underlying38 rfl info_tp ?_))
        refine bodyPost_ret (v := .tuple #[.int .i64 0, .int .i64 10]) ?_ rfl ⟨by rw [HQ.out], by rw [HQ.out]; exact HH.out.stay z4⟩
        simp [results, Try.results9, go_sem]
theorem FS.find_lt (h : FS w g sb n N s t T c wd x FW) {k : Tp} {q : Int × Bool × Bool} {i : Nat} {b : Bool} (hq : findS s k = q) (hi : q = ((i : Int), b, true)) : i < 256 := by
  subst hi
  have hr := h.right.room
  unfold findS at hq
  cases hf : findF s.slots k with
  | none => rw [hf] at hq; cases hq
  | some j =>
    rw [hf] at hq
    obtain ⟨f, hs, _⟩ := findF_some hf
    have hl := slot_lt hs
    injection hq with h1 _
    omega
end
end Go.Proofs.Ytofpalmghdapkaa

/- Results out of blocks: two structs and two plain ones; a struct and two plain ones. No condition. -/
namespace Go.Proofs.Ytofpalmghdapkaa
open Go.ChangeShapes Go.WideShapes Go.ChangeAt Go.RowKit
set_option linter.unusedVariables false

section
variable {P : Program}
theorem results_cctt {fn : Func} {p q u v : Tmp} {t1 t2 : TypeId} (h : fn.results = #[.cell p t1, .cell q t2, .tmp u, .tmp v]) (tmps : Array Value) (w : World) (g1 g2 : Nat) (c1 c2 : List Value) (d1 d2 : TypeDesc)
    (hp : tmps.getD p undef = .pointer (some ⟨g1, 0, none⟩)) (hq : tmps.getD q undef = .pointer (some ⟨g2, 0, none⟩)) (h1 : Bxo w g1 t1 c1) (h2 : Bxo w g2 t2 c2)
    (u1 : P.underlying t1 = some d1) (r1 : (match d1 with | .struct _ | .array _ _ => true | _ => false) = true) (i1 : (P.info? t1).map (·.size) = some c1.length)
    (u2 : P.underlying t2 = some d2) (r2 : (match d2 with | .struct _ | .array _ _ => true | _ => false) = true) (i2 : (P.info? t2).map (·.size) = some c2.length) :
    (results fn tmps).run P w = .ok (.tuple #[.agg c1.toArray, .agg c2.toArray, tmps.getD u undef, tmps.getD v undef]) w := by
  have hp' : tmps[p]?.getD undef = .pointer (some ⟨g1, 0, none⟩) := by simpa using hp
  have hq' : tmps[q]?.getD undef = .pointer (some ⟨g2, 0, none⟩) := by simpa using hq
  have e1 := run_loadVar_row (P := P) w g1 t1 t1 c1.toArray (0, 0) d1 h1 u1 r1 (by simpa using i1)
  have e2 := run_loadVar_row (P := P) w g2 t2 t2 c2.toArray (0, 0) d2 h2 u2 r2 (by simpa using i2)
  simp [results, h, hp', hq', asAddr, e1, e2]
theorem results_ctt {fn : Func} {p u v : Tmp} {t1 : TypeId} (h : fn.results = #[.cell p t1, .tmp u, .tmp v]) (tmps : Array Value) (w : World) (g1 : Nat) (c1 : List Value) (d1 : TypeDesc)
    (hp : tmps.getD p undef = .pointer (some ⟨g1, 0, none⟩)) (h1 : Bxo w g1 t1 c1)
    (u1 : P.underlying t1 = some d1) (r1 : (match d1 with | .struct _ | .array _ _ => true | _ => false) = true) (i1 : (P.info? t1).map (·.size) = some c1.length) :
    (results fn tmps).run P w = .ok (.tuple #[.agg c1.toArray, tmps.getD u undef, tmps.getD v undef]) w := by
  have hp' : tmps[p]?.getD undef = .pointer (some ⟨g1, 0, none⟩) := by simpa using hp
  have e1 := run_loadVar_row (P := P) w g1 t1 t1 c1.toArray (0, 0) d1 h1 u1 r1 (by simpa using i1)
  simp [results, h, hp', asAddr, e1]
end
end Go.Proofs.Ytofpalmghdapkaa
