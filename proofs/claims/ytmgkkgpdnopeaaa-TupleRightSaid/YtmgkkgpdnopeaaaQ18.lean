/- Lemmas, several texts in one. -/
import Derived.Test.YtmgkkgpdnopeaaaQ17
import Derived.Lib.BytesEntry
import Derived.Test.YtmgkkgpdnopeaaaQ02
import Derived.WalkKit
import Derived.ProofKit
import Derived.OpenShut
import Derived.Below
import Derived.Test.YtmgkkgpdnopeaaaRows
/- Contracts of package tuple: told. -/
namespace Go.Proofs.Ytmgkkgpdnopeaaa
open Go.ChangeShapes Go.WideShapes Go.ChangeAt Go.RowKit
set_option linter.unusedVariables false
set_option linter.unusedSimpArgs false

theorem info_a13 : (Try.prog.info? 65).map (·.size) = some 13 := by kernel_rfl
theorem spl_at (vs : List Value) : ∀ (p cs : List Value), cs.length = vs.length → spl (p ++ cs) p.length vs = p ++ vs := by
  induction vs with
  | nil => intro p cs h; rw [List.length_eq_zero_iff.1 h, spl]
  | cons v r ih =>
    intro p cs h
    rcases cs with _ | ⟨c, cs⟩
    · cases h
    have := ih (p ++ [v]) cs (by simpa using h)
    rw [spl]
    have e : (p ++ c :: cs).set p.length v = (p ++ [v]) ++ cs := by simp
    rw [e]
    rw [List.length_append] at this
    rw [show p.length + 1 = p.length + [v].length from rfl, this]
    simp
theorem spl_whole13 (cs vs : List Value) (h : vs.length = 13) (h' : cs.length = 13) : spl cs 0 vs = vs := by
  have := spl_at vs [] cs (by rw [h, h'])
  simpa using this
theorem told_cells (t : Tp) (ht : RngTp t) : setW (setA (setW (setA (List.set [.int .u8 0, .int .u8 0, .int .u8 0, .int .u8 0, .int .u8 0, .int .u8 0, .int .u8 0, .int .u8 0, .int .u8 0, .int .u8 0, .int .u8 0, .int .u8 0, .int .u8 0] 0 (.int .u8 (t.proto % 256))) 1 t.src) 5 (t.sport % 65536)) 7 t.dst) 11 (t.dport % 65536) = u8L (bytesT t) := by
  have s0 := ht.s0
  have s1 := ht.s1
  have d0 := ht.d0
  have d1 := ht.d1
  simp only [setW, setA, List.set_cons_zero, List.set_cons_succ, u8L, bytesT, List.map_cons, List.map_nil]
  have q1 : t.src / 65536 / 256 = t.src / 16777216 := by omega
  have q2 : t.src % 65536 / 256 = t.src / 256 % 256 := by omega
  have q3 : t.src % 65536 % 256 = t.src % 256 := by omega
  have q4 : t.dst / 65536 / 256 = t.dst / 16777216 := by omega
  have q5 : t.dst % 65536 / 256 = t.dst / 256 % 256 := by omega
  have q6 : t.dst % 65536 % 256 = t.dst % 256 := by omega
  have q7 : t.sport % 65536 % 256 = t.sport % 256 := by omega
  have q8 : t.dport % 65536 % 256 = t.dport % 256 := by omega
  simp only [q1, q2, q3, q4, q5, q6, q7, q8]
set_option maxRecDepth 100000 in
set_option maxHeartbeats 8000000 in
theorem ctold : ∀ (t : Tp) (ht : RngTp t) (w : World), Calls Try.prog 28 #[tpV t] w fun e w' => e = .returned (.agg (u8L (bytesT t)).toArray) ∧ Below w.heap.size w w' := by
  intro t ht w
  have s0 := ht.s0
  have s1 := ht.s1
  have d0 := ht.d0
  have d1 := ht.d1
  have p0 := IntKind.wrap_u8 t.proto
  have p1 := IntKind.wrap_u16 t.sport
  have p2 := IntKind.wrap_u16 t.dport
  have y0 : Below w.heap.size w (((w.alloc (oTp t)).alloc (.cells #[.int .u8 0, .int .u8 0, .int .u8 0, .int .u8 0, .int .u8 0, .int .u8 0, .int .u8 0, .int .u8 0, .int .u8 0, .int .u8 0, .int .u8 0, .int .u8 0, .int .u8 0] 65)).alloc (.cells #[.int .u8 0, .int .u8 0, .int .u8 0, .int .u8 0, .int .u8 0, .int .u8 0, .int .u8 0, .int .u8 0, .int .u8 0, .int .u8 0, .int .u8 0, .int .u8 0, .int .u8 0] 65)) := below_alloc (below_alloc (below_alloc (Below.refl _ _) (Nat.le_refl _) _) (by simp) _) (by simp; omega) _
  have h1 := ((Bxo.made w 27 (tpL t)).alloc (.cells #[.int .u8 0, .int .u8 0, .int .u8 0, .int .u8 0, .int .u8 0, .int .u8 0, .int .u8 0, .int .u8 0, .int .u8 0, .int .u8 0, .int .u8 0, .int .u8 0, .int .u8 0] 65)).alloc (.cells #[.int .u8 0, .int .u8 0, .int .u8 0, .int .u8 0, .int .u8 0, .int .u8 0, .int .u8 0, .int .u8 0, .int .u8 0, .int .u8 0, .int .u8 0, .int .u8 0, .int .u8 0] 65)
  have h2 : Bxo (((w.alloc (oTp t)).alloc (.cells #[.int .u8 0, .int .u8 0, .int .u8 0, .int .u8 0, .int .u8 0, .int .u8 0, .int .u8 0, .int .u8 0, .int .u8 0, .int .u8 0, .int .u8 0, .int .u8 0, .int .u8 0] 65)).alloc (.cells #[.int .u8 0, .int .u8 0, .int .u8 0, .int .u8 0, .int .u8 0, .int .u8 0, .int .u8 0, .int .u8 0, .int .u8 0, .int .u8 0, .int .u8 0, .int .u8 0, .int .u8 0] 65)) (w.heap.size + 1) 65 [.int .u8 0, .int .u8 0, .int .u8 0, .int .u8 0, .int .u8 0, .int .u8 0, .int .u8 0, .int .u8 0, .int .u8 0, .int .u8 0, .int .u8 0, .int .u8 0, .int .u8 0] := by
    have := (Bxo.made (w.alloc (oTp t)) 65 [.int .u8 0, .int .u8 0, .int .u8 0, .int .u8 0, .int .u8 0, .int .u8 0, .int .u8 0, .int .u8 0, .int .u8 0, .int .u8 0, .int .u8 0, .int .u8 0, .int .u8 0]).alloc (.cells #[.int .u8 0, .int .u8 0, .int .u8 0, .int .u8 0, .int .u8 0, .int .u8 0, .int .u8 0, .int .u8 0, .int .u8 0, .int .u8 0, .int .u8 0, .int .u8 0, .int .u8 0] 65)
    simpa using this
  have h3 : Bxo (((w.alloc (oTp t)).alloc (.cells #[.int .u8 0, .int .u8 0, .int .u8 0, .int .u8 0, .int .u8 0, .int .u8 0, .int .u8 0, .int .u8 0, .int .u8 0, .int .u8 0, .int .u8 0, .int .u8 0, .int .u8 0] 65)).alloc (.cells #[.int .u8 0, .int .u8 0, .int .u8 0, .int .u8 0, .int .u8 0, .int .u8 0, .int .u8 0, .int .u8 0, .int .u8 0, .int .u8 0, .int .u8 0, .int .u8 0, .int .u8 0] 65)) (w.heap.size + 2) 65 [.int .u8 0, .int .u8 0, .int .u8 0, .int .u8 0, .int .u8 0, .int .u8 0, .int .u8 0, .int .u8 0, .int .u8 0, .int .u8 0, .int .u8 0, .int .u8 0, .int .u8 0] := by
    have := Bxo.made ((w.alloc (oTp t)).alloc (.cells #[.int .u8 0, .int .u8 0, .int .u8 0, .int .u8 0, .int .u8 0, .int .u8 0, .int .u8 0, .int .u8 0, .int .u8 0, .int .u8 0, .int .u8 0, .int .u8 0, .int .u8 0] 65)) 65 [.int .u8 0, .int .u8 0, .int .u8 0, .int .u8 0, .int .u8 0, .int .u8 0, .int .u8 0, .int .u8 0, .int .u8 0, .int .u8 0, .int .u8 0, .int .u8 0, .int .u8 0]
    simpa using this
  go_enter Try.func28, Try.ntmps28
  go_upto_region 2 with fail
  generalize (((w.alloc (oTp t)).alloc (.cells #[.int .u8 0, .int .u8 0, .int .u8 0, .int .u8 0, .int .u8 0, .int .u8 0, .int .u8 0, .int .u8 0, .int .u8 0, .int .u8 0, .int .u8 0, .int .u8 0, .int .u8 0] 65)).alloc (.cells #[.int .u8 0, .int .u8 0, .int .u8 0, .int .u8 0, .int .u8 0, .int .u8 0, .int .u8 0, .int .u8 0, .int .u8 0, .int .u8 0, .int .u8 0, .int .u8 0, .int .u8 0] 65)) = W at *
  have c0 := h1.cell 0 rfl
  have k0 := h3.cell 0 rfl
  have f0 := h3.frozen 0
  have HT := Go.Lib.hid h1
  have HR := Go.Lib.hid h2
  have HB := Go.Lib.hid h3
  clear h1 h2 h3
  go_upto_region 3 with fail
  have hb2 := HB.out.set 0 (.int .u8 (t.proto % 256))
  have ho2 : Only (w.heap.size + 2) W _ := Only.refl.set 0 (.int .u8 (t.proto % 256))
  generalize W.setCell ⟨w.heap.size + 2, 0, none⟩ (.int .u8 (t.proto % 256)) = W2 at *
  have HT2 := Go.Lib.hid (HT.out.only ho2 (by omega))
  have HR2 := Go.Lib.hid (HR.out.only ho2 (by omega))
  have HB2 := Go.Lib.hid hb2
  have y2 : Below w.heap.size w W2 := y0.trans (ho2.below (by omega))
  clear HT HR HB hb2 ho2 y0 c0 k0 f0
  try simp only [Act.put, List.setIfInBounds_toArray, List.set_cons_zero, List.set_cons_succ]
  refine wp_region_held_drew (S := fun Y => Bxo Y w.heap.size 27 (tpL t)) (by kernel_rfl) ?_ (fun hHeld => ?_)
  · exact HT2.out.drew
  refine wpAnyH_take (i := 0) (oi := ⟨some 8, _, _, _, _, _⟩) (v := ?_) rfl (by kernel_rfl) (by kernel_rfl) (by kernel_rfl) (fun _ _ _ h => h) (Or.inl ⟨by rfl, ?_⟩) (by assumption) ?_
  rotate_left
  · intro w hSw; (try dsimp only at hSw); go_simp; (try with_reducible rfl)
  try simp only [Act.put, List.setIfInBounds_toArray, List.set_cons_zero, List.set_cons_succ]
  refine wpAnyH_take (i := 1) (oi := ⟨some 9, _, _, _, _, _⟩) (v := ?_) rfl (by kernel_rfl) (by kernel_rfl) (by kernel_rfl) (fun _ _ _ h => h) (Or.inl ⟨by rfl, ?_⟩) (by assumption) ?_
  rotate_left
  · intro w hSw; (try dsimp only at hSw); go_simp; (try with_reducible rfl)
  try simp only [Act.put, List.setIfInBounds_toArray, List.set_cons_zero, List.set_cons_succ]
  refine wpAnyH_take (i := 2) (oi := ⟨some 10, _, _, _, _, _⟩) (v := ?_) rfl (by kernel_rfl) (by kernel_rfl) (by kernel_rfl) (fun _ _ _ h => h) (Or.inl ⟨by rfl, ?_⟩) (by assumption) ?_
  rotate_left
  · intro w hSw; have xc := hSw.cell 1 rfl; (try dsimp only at hSw); go_simp; (try with_reducible rfl)
  try simp only [Act.put, List.setIfInBounds_toArray, List.set_cons_zero, List.set_cons_succ]
  refine wpAnyH_ready (rs := [3]) (by kernel_rfl) (by simp) (AllReadyH.cons (o := ⟨some 11, _, _, _, _, _⟩) rfl (fun Kc hKc => ?_) AllReadyH.nil)
  go_simp
  go_at_call 52; refine (tputAddr9 _ (w.heap.size + 2) _ _ HB2.out.drew (by simp) 1 1 rfl (by omega) t.src s0 s1).mono ?_; rintro e w3 ⟨rfl, hb3, ho3⟩; have HB3 := Go.Lib.hid hb3; clear hb3; dsimp only
  refine hKc.out _ _ (hHeld.only ho3 (by omega)) (fun hHeld => ?_)
  clear hKc Kc
  try simp only [Act.put, List.setIfInBounds_toArray, List.set_cons_zero, List.set_cons_succ]
  refine wpAnyH_done (by kernel_rfl) ?_ _
  go_upto_region 4 with fail
  try simp only [Act.put, List.setIfInBounds_toArray, List.set_cons_zero, List.set_cons_succ]
  refine wp_region_held_drew (S := fun Y => Bxo Y w.heap.size 27 (tpL t)) (by kernel_rfl) ?_ (fun hHeld => ?_)
  · exact hHeld.drew
  refine wpAnyH_take (i := 0) (oi := ⟨some 12, _, _, _, _, _⟩) (v := ?_) rfl (by kernel_rfl) (by kernel_rfl) (by kernel_rfl) (fun _ _ _ h => h) (Or.inl ⟨by rfl, ?_⟩) (by assumption) ?_
  rotate_left
  · intro w hSw; (try dsimp only at hSw); go_simp; (try with_reducible rfl)
  try simp only [Act.put, List.setIfInBounds_toArray, List.set_cons_zero, List.set_cons_succ]
  refine wpAnyH_take (i := 1) (oi := ⟨some 13, _, _, _, _, _⟩) (v := ?_) rfl (by kernel_rfl) (by kernel_rfl) (by kernel_rfl) (fun _ _ _ h => h) (Or.inl ⟨by rfl, ?_⟩) (by assumption) ?_
  rotate_left
  · intro w hSw; (try dsimp only at hSw); go_simp; (try with_reducible rfl)
  try simp only [Act.put, List.setIfInBounds_toArray, List.set_cons_zero, List.set_cons_succ]
  refine wpAnyH_take (i := 2) (oi := ⟨some 14, _, _, _, _, _⟩) (v := ?_) rfl (by kernel_rfl) (by kernel_rfl) (by kernel_rfl) (fun _ _ _ h => h) (Or.inl ⟨by rfl, ?_⟩) (by assumption) ?_
  rotate_left
  · intro w hSw; have xc := hSw.cell 2 rfl; (try dsimp only at hSw); go_simp; (try with_reducible rfl)
  try simp only [Act.put, List.setIfInBounds_toArray, List.set_cons_zero, List.set_cons_succ]
  refine wpAnyH_take (i := 3) (oi := ⟨some 15, _, _, _, _, _⟩) (v := ?_) rfl (by kernel_rfl) (by kernel_rfl) (by kernel_rfl) (fun _ _ _ h => h) (Or.inl ⟨by rfl, ?_⟩) (by assumption) ?_
  rotate_left
  · intro w hSw; (try dsimp only at hSw); go_simp; (try with_reducible rfl)
  try simp only [Act.put, List.setIfInBounds_toArray, List.set_cons_zero, List.set_cons_succ]
  refine wpAnyH_ready (rs := [4]) (by kernel_rfl) (by simp) (AllReadyH.cons (o := ⟨some 16, _, _, _, _, _⟩) rfl (fun Kc hKc => ?_) AllReadyH.nil)
  go_simp
  go_at_call 53; refine (tputWord9 _ (w.heap.size + 2) _ _ HB3.out.drew (by simp) 5 5 rfl (by omega) (t.sport % 65536) (by omega) (by omega)).mono ?_; rintro e w4 ⟨rfl, hb4, ho4⟩; have HB4 := Go.Lib.hid hb4; clear hb4; dsimp only
  refine hKc.out _ _ (hHeld.only ho4 (by omega)) (fun hHeld => ?_)
  clear hKc Kc
  try simp only [Act.put, List.setIfInBounds_toArray, List.set_cons_zero, List.set_cons_succ]
  refine wpAnyH_done (by kernel_rfl) ?_ _
  go_upto_region 5 with fail
  try simp only [Act.put, List.setIfInBounds_toArray, List.set_cons_zero, List.set_cons_succ]
  refine wp_region_held_drew (S := fun Y => Bxo Y w.heap.size 27 (tpL t)) (by kernel_rfl) ?_ (fun hHeld => ?_)
  · exact hHeld.drew
  refine wpAnyH_take (i := 0) (oi := ⟨some 17, _, _, _, _, _⟩) (v := ?_) rfl (by kernel_rfl) (by kernel_rfl) (by kernel_rfl) (fun _ _ _ h => h) (Or.inl ⟨by rfl, ?_⟩) (by assumption) ?_
  rotate_left
  · intro w hSw; (try dsimp only at hSw); go_simp; (try with_reducible rfl)
  try simp only [Act.put, List.setIfInBounds_toArray, List.set_cons_zero, List.set_cons_succ]
  refine wpAnyH_take (i := 1) (oi := ⟨some 18, _, _, _, _, _⟩) (v := ?_) rfl (by kernel_rfl) (by kernel_rfl) (by kernel_rfl) (fun _ _ _ h => h) (Or.inl ⟨by rfl, ?_⟩) (by assumption) ?_
  rotate_left
  · intro w hSw; (try dsimp only at hSw); go_simp; (try with_reducible rfl)
  try simp only [Act.put, List.setIfInBounds_toArray, List.set_cons_zero, List.set_cons_succ]
  refine wpAnyH_take (i := 2) (oi := ⟨some 19, _, _, _, _, _⟩) (v := ?_) rfl (by kernel_rfl) (by kernel_rfl) (by kernel_rfl) (fun _ _ _ h => h) (Or.inl ⟨by rfl, ?_⟩) (by assumption) ?_
  rotate_left
  · intro w hSw; have xc := hSw.cell 3 rfl; (try dsimp only at hSw); go_simp; (try with_reducible rfl)
  try simp only [Act.put, List.setIfInBounds_toArray, List.set_cons_zero, List.set_cons_succ]
  refine wpAnyH_ready (rs := [3]) (by kernel_rfl) (by simp) (AllReadyH.cons (o := ⟨some 20, _, _, _, _, _⟩) rfl (fun Kc hKc => ?_) AllReadyH.nil)
  go_simp
  go_at_call 52; refine (tputAddr9 _ (w.heap.size + 2) _ _ HB4.out.drew (by simp) 7 7 rfl (by omega) t.dst d0 d1).mono ?_; rintro e w5 ⟨rfl, hb5, ho5⟩; have HB5 := Go.Lib.hid hb5; clear hb5; dsimp only
  refine hKc.out _ _ (hHeld.only ho5 (by omega)) (fun hHeld => ?_)
  clear hKc Kc
  try simp only [Act.put, List.setIfInBounds_toArray, List.set_cons_zero, List.set_cons_succ]
  refine wpAnyH_done (by kernel_rfl) ?_ _
  go_upto_region 6 with fail
  try simp only [Act.put, List.setIfInBounds_toArray, List.set_cons_zero, List.set_cons_succ]
  refine wp_region_held_drew (S := fun Y => Bxo Y w.heap.size 27 (tpL t)) (by kernel_rfl) ?_ (fun hHeld => ?_)
  · exact hHeld.drew
  refine wpAnyH_take (i := 0) (oi := ⟨some 21, _, _, _, _, _⟩) (v := ?_) rfl (by kernel_rfl) (by kernel_rfl) (by kernel_rfl) (fun _ _ _ h => h) (Or.inl ⟨by rfl, ?_⟩) (by assumption) ?_
  rotate_left
  · intro w hSw; (try dsimp only at hSw); go_simp; (try with_reducible rfl)
  try simp only [Act.put, List.setIfInBounds_toArray, List.set_cons_zero, List.set_cons_succ]
  refine wpAnyH_take (i := 1) (oi := ⟨some 22, _, _, _, _, _⟩) (v := ?_) rfl (by kernel_rfl) (by kernel_rfl) (by kernel_rfl) (fun _ _ _ h => h) (Or.inl ⟨by rfl, ?_⟩) (by assumption) ?_
  rotate_left
  · intro w hSw; (try dsimp only at hSw); go_simp; (try with_reducible rfl)
  try simp only [Act.put, List.setIfInBounds_toArray, List.set_cons_zero, List.set_cons_succ]
  refine wpAnyH_take (i := 2) (oi := ⟨some 23, _, _, _, _, _⟩) (v := ?_) rfl (by kernel_rfl) (by kernel_rfl) (by kernel_rfl) (fun _ _ _ h => h) (Or.inl ⟨by rfl, ?_⟩) (by assumption) ?_
  rotate_left
  · intro w hSw; have xc := hSw.cell 4 rfl; (try dsimp only at hSw); go_simp; (try with_reducible rfl)
  try simp only [Act.put, List.setIfInBounds_toArray, List.set_cons_zero, List.set_cons_succ]
  refine wpAnyH_take (i := 3) (oi := ⟨some 24, _, _, _, _, _⟩) (v := ?_) rfl (by kernel_rfl) (by kernel_rfl) (by kernel_rfl) (fun _ _ _ h => h) (Or.inl ⟨by rfl, ?_⟩) (by assumption) ?_
  rotate_left
  · intro w hSw; (try dsimp only at hSw); go_simp; (try with_reducible rfl)
  try simp only [Act.put, List.setIfInBounds_toArray, List.set_cons_zero, List.set_cons_succ]
  refine wpAnyH_ready (rs := [4]) (by kernel_rfl) (by simp) (AllReadyH.cons (o := ⟨some 25, _, _, _, _, _⟩) rfl (fun Kc hKc => ?_) AllReadyH.nil)
  go_simp
  go_at_call 53; refine (tputWord9 _ (w.heap.size + 2) _ _ HB5.out.drew (by simp) 11 11 rfl (by omega) (t.dport % 65536) (by omega) (by omega)).mono ?_; rintro e w6 ⟨rfl, hb6, ho6⟩; have HB6 := Go.Lib.hid hb6; clear hb6; dsimp only
  refine hKc.out _ _ (hHeld.only ho6 (by omega)) (fun hHeld => ?_)
  clear hKc Kc
  try simp only [Act.put, List.setIfInBounds_toArray, List.set_cons_zero, List.set_cons_succ]
  refine wpAnyH_done (by kernel_rfl) ?_ _
  have hb7 : Bxo w6 (w.heap.size + 2) 65 (u8L (bytesT t)) := by
    have h := HB6.out
    rwa [told_cells t ht] at h
  have HB7 := Go.Lib.hid hb7
  have hr7 : Bxo w6 (w.heap.size + 1) 65 [.int .u8 0, .int .u8 0, .int .u8 0, .int .u8 0, .int .u8 0, .int .u8 0, .int .u8 0, .int .u8 0, .int .u8 0, .int .u8 0, .int .u8 0, .int .u8 0, .int .u8 0] := ((((HR2.out.drew.only ho3 (by omega)).drew.only ho4 (by omega)).drew.only ho5 (by omega)).drew.only ho6 (by omega))
  have HR7 := Go.Lib.hid hr7
  have y6 : Below w.heap.size w w6 := (y2.trans (below_drew (Below.refl _ _))).trans ((ho3.below (by omega)).trans ((below_drew (Below.refl _ _)).trans ((ho4.below (by omega)).trans ((below_drew (Below.refl _ _)).trans ((ho5.below (by omega)).trans ((below_drew (Below.refl _ _)).trans (ho6.below (by omega))))))))
  have hl7 : (u8L (bytesT t)).length = 13 := by simp [bytesT]
  have ho7 := u8_one (bytesT t)
  obtain ⟨cs, hcs⟩ : ∃ cs, u8L (bytesT t) = cs := ⟨_, rfl⟩
  rw [hcs] at HB7 hl7 ho7
  have HCS := Go.Lib.hid hcs
  clear hcs hb7 hr7 HB6 HB5 HB4 HB3 HB2 HR2 ho3 ho4 ho5 ho6 y2 ht
  go_wp2_with (first
    | (refine wpList_load_box rfl 65 _ rfl (w.heap.size + 2) rfl cs _ HB7.out Try.underlying65 rfl (by rw [info_a13, hl7]) ?_)
    | (refine wpList_store_any rfl 65 _ _ rfl (w.heap.size + 1) 0 65 _ cs _ rfl rfl rfl HR7.out (by rw [info_a13, hl7]) (by rw [hl7]; show 0 + 13 ≤ 13; omega) ho7 ?_; intro wF hbF hoF; have HBF := Go.Lib.hid hbF; clear hbF))
  have HF : Bxo wF (w.heap.size + 1) 65 cs := by
    have h := HBF.out
    rwa [spl_whole13 _ cs hl7 rfl] at h
  exact bodyPost_ret (v := .agg cs.toArray) (results_cell_row rfl _ _ (w.heap.size + 1) 65 _ _ _ rfl HF Try.underlying65 rfl (by rw [info_a13]; simp [hl7])) rfl ⟨by rw [HCS.out], y6.trans (hoF.below (show w.heap.size ≤ w.heap.size + 1 by omega))⟩
end Go.Proofs.Ytmgkkgpdnopeaaa

/- bytes.Compare of two rows of bytes: the model's entry, in the words of the order of lists. -/
namespace Go.Proofs.Ytmgkkgpdnopeaaa
open Go.ChangeShapes Go.WideShapes Go.ChangeAt Go.RowKit
set_option linter.unusedVariables false
set_option linter.unusedSimpArgs false

/-- what the entry answers, from a place on. -/
def cmpAt (a b : ByteArray) (k n : Nat) : Int :=
  match (List.range' k n).find? fun i => a[i]! != b[i]! with
  | some i => if a[i]! < b[i]! then -1 else 1
  | none => 0
theorem cmpAt_zero (a b : ByteArray) (k : Nat) : cmpAt a b k 0 = 0 := rfl
theorem cmpAt_succ (a b : ByteArray) (k n : Nat) : cmpAt a b k (n + 1) = if a[k]! = b[k]! then cmpAt a b (k + 1) n else if a[k]! < b[k]! then -1 else 1 := by
  unfold cmpAt
  rw [List.range'_succ, List.find?_cons]
  by_cases h : a[k]! = b[k]!
  · simp [h]
  · have e : (a[k]! != b[k]!) = true := by simpa using h
    rw [e, if_neg h]
theorem get_bytes (l : List UInt8) (k : Nat) (h : k < l.length) : (ByteArray.mk l.toArray)[k]! = l[k] := by
  rw [getElem!_pos _ k (by show k < l.toArray.size; simpa using h)]
  show l.toArray[k]'(by simpa using h) = _
  simp
theorem cmp_less (x y : List UInt8) : ∀ (n k : Nat), x.length = k + n → y.length = k + n →
    decide (cmpAt ⟨x.toArray⟩ ⟨y.toArray⟩ k n < 0) = lessL ((x.drop k).map (fun b => (b.toNat : Int))) ((y.drop k).map (fun b => (b.toNat : Int)))
  | 0, k, hx, hy => by
    rw [cmpAt_zero, List.drop_eq_nil_of_le (by omega), List.drop_eq_nil_of_le (by omega)]
    rfl
  | n + 1, k, hx, hy => by
    have h1 : k < x.length := by omega
    have h2 : k < y.length := by omega
    have ih := cmp_less x y n (k + 1) (by omega) (by omega)
    rw [cmpAt_succ, get_bytes x k h1, get_bytes y k h2, List.drop_eq_getElem_cons h1, List.drop_eq_getElem_cons h2, List.map_cons, List.map_cons, lessL]
    by_cases e : x[k] = y[k]
    · rw [if_pos e, if_pos (by rw [e]), ih]
    · have e' : ¬ ((x[k].toNat : Int) = (y[k].toNat : Int)) := by
        intro q
        exact e (UInt8.toNat_inj.1 (by omega))
      rw [if_neg e, if_neg e']
      by_cases l : x[k] < y[k]
      · rw [if_pos l]
        have := UInt8.lt_iff_toNat_lt.1 l
        simp; omega
      · rw [if_neg l]
        have : ¬ x[k].toNat < y[k].toNat := fun q => l (UInt8.lt_iff_toNat_lt.2 q)
        simp; omega
theorem bytes_nat (l : List Int) (h : ∀ n ∈ l, 0 ≤ n ∧ n ≤ 255) : (Lib.bytesOf l).map (fun b => (b.toNat : Int)) = l := by
  unfold Lib.bytesOf
  rw [List.map_map]
  refine (List.map_congr_left (g := id) fun n hn => ?_).trans (List.map_id l)
  obtain ⟨h0, h1⟩ := h n hn
  show ((UInt8.ofNat n.toNat).toNat : Int) = n
  rw [UInt8.toNat_ofNat']
  omega
theorem run_cmpSlices {P : Program} (w : World) (g h n c d : Nat) (xs ys : List Int) (hx : xs.length = n) (hy : ys.length = n)
    (kx : ∀ j x, xs[j]? = some x → w.cell? ((⟨g, 0, none⟩ : Addr).add j) = some (.int .u8 x)) (ky : ∀ j x, ys[j]? = some x → w.cell? ((⟨h, 0, none⟩ : Addr).add j) = some (.int .u8 x)) :
    (Extern.BytealgCompare.compare #[.slice (some ⟨g, 0, none⟩) n c, .slice (some ⟨h, 0, none⟩) n d]).run P w = .ok (.int .i64 (cmpAt ⟨(Lib.bytesOf xs).toArray⟩ ⟨(Lib.bytesOf ys).toArray⟩ 0 n)) w := by
  have l1 := Lib.run_loadBytesX (P := P) w xs ⟨g, 0, none⟩ .empty kx
  have l2 := Lib.run_loadBytesX (P := P) w ys ⟨h, 0, none⟩ .empty ky
  have e : ∀ zs : List Int, (⟨ByteArray.empty.data ++ (Lib.bytesOf zs).toArray⟩ : ByteArray) = ⟨(Lib.bytesOf zs).toArray⟩ := by
    intro zs
    apply ByteArray.ext
    show (#[] : Array UInt8) ++ (Lib.bytesOf zs).toArray = (Lib.bytesOf zs).toArray
    simp
  rw [e, hx] at l1
  rw [e, hy] at l2
  change Sem.run P (do pure (goInt (Extern.BytealgCompare.cmp (← Extern.Bytes.bytesOf (.slice (some ⟨g, 0, none⟩) n c)) (← Extern.Bytes.bytesOf (.slice (some ⟨h, 0, none⟩) n d))))) w = _
  simp only [Extern.Bytes.bytesOf, Sem.run_bind, Sem.run_pure, l1, l2, Result.andThen]
  have s1 : (ByteArray.mk (Lib.bytesOf xs).toArray).size = n := by show (Lib.bytesOf xs).toArray.size = n; simp [Lib.bytesOf, hx]
  have s2 : (ByteArray.mk (Lib.bytesOf ys).toArray).size = n := by show (Lib.bytesOf ys).toArray.size = n; simp [Lib.bytesOf, hy]
  have hc : Extern.BytealgCompare.cmp ⟨(Lib.bytesOf xs).toArray⟩ ⟨(Lib.bytesOf ys).toArray⟩ = cmpAt ⟨(Lib.bytesOf xs).toArray⟩ ⟨(Lib.bytesOf ys).toArray⟩ 0 n := by
    unfold Extern.BytealgCompare.cmp cmpAt
    rw [s1, s2, Nat.min_self, List.range_eq_range']
    split
    · rename_i i hi
      rw [hi]
    · rename_i hi
      rw [hi]
      simp
  rw [hc]
  rfl
/-- the order of the bytes is that of the numbers. -/
theorem less_split (n m : Int) (x y : List Int) : lessL (n / 256 :: n % 256 :: x) (m / 256 :: m % 256 :: y) = lessL (n :: x) (m :: y) := by
  simp only [lessL]
  by_cases e : n = m
  · subst e; simp
  · rw [if_neg e]
    by_cases e1 : n / 256 = m / 256
    · rw [if_pos e1]
      have e2 : ¬ n % 256 = m % 256 := by omega
      rw [if_neg e2, decide_eq_decide]
      omega
    · rw [if_neg e1, decide_eq_decide]
      omega
theorem less_four (n m : Int) (x y : List Int) : lessL (n / 16777216 :: n / 65536 % 256 :: n / 256 % 256 :: n % 256 :: x) (m / 16777216 :: m / 65536 % 256 :: m / 256 % 256 :: m % 256 :: y) = lessL (n :: x) (m :: y) := by
  rw [← less_split n m x y, ← less_split (n / 256) (m / 256), ← less_split (n / 256 / 256) (m / 256 / 256)]
  rw [show n / 256 / 256 / 256 = n / 16777216 by omega, show m / 256 / 256 / 256 = m / 16777216 by omega, show n / 256 / 256 = n / 65536 by omega, show m / 256 / 256 = m / 65536 by omega]
theorem less_cons (n m : Int) (x y x' y' : List Int) (h : lessL x y = lessL x' y') : lessL (n :: x) (m :: y) = lessL (n :: x') (m :: y') := by
  simp only [lessL, h]
theorem less_bytes (a b : Tp) : lessL (bytesT a) (bytesT b) = lessT a b := by
  unfold lessT numsT bytesT
  refine less_cons _ _ _ _ _ _ ?_
  rw [less_four]
  refine less_cons _ _ _ _ _ _ ?_
  rw [show a.sport % 256 = a.sport % 65536 % 256 by omega, show b.sport % 256 = b.sport % 65536 % 256 by omega, less_split]
  refine less_cons _ _ _ _ _ _ ?_
  rw [less_four]
  refine less_cons _ _ _ _ _ _ ?_
  rw [show a.dport % 256 = a.dport % 65536 % 256 by omega, show b.dport % 256 = b.dport % 65536 % 256 by omega, less_split]
theorem bytesT_rng (t : Tp) (h : RngTp t) : ∀ n ∈ bytesT t, 0 ≤ n ∧ n ≤ 255 := by
  have s0 := h.s0
  have s1 := h.s1
  have d0 := h.d0
  have d1 := h.d1
  intro n hn
  simp only [bytesT, List.mem_cons, List.not_mem_nil, or_false] at hn
  rcases hn with rfl | rfl | rfl | rfl | rfl | rfl | rfl | rfl | rfl | rfl | rfl | rfl | rfl <;> omega
theorem cmp_bytes (a b : Tp) (ha : RngTp a) (hb : RngTp b) : decide (cmpAt ⟨(Lib.bytesOf (bytesT a)).toArray⟩ ⟨(Lib.bytesOf (bytesT b)).toArray⟩ 0 13 < 0) = lessT a b := by
  rw [cmp_less _ _ 13 0 (by simp [Lib.bytesOf, bytesT]) (by simp [Lib.bytesOf, bytesT]), List.drop_zero, List.drop_zero, bytes_nat _ (bytesT_rng a ha), bytes_nat _ (bytesT_rng b hb), less_bytes]
end Go.Proofs.Ytmgkkgpdnopeaaa
