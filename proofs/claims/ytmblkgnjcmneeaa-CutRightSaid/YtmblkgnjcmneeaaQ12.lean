/- Lemmas, several texts in one. -/
import Derived.Test.YtmblkgnjcmneeaaQ11
import Derived.Test.YtmblkgnjcmneeaaQ08
import Derived.Test.YtmblkgnjcmneeaaQ02
/- The contract of slices.Insert at runs, one run put in: at the end, in a new row, or in place. -/
namespace Go.Proofs.Ytmblkgnjcmneeaa
open Go.ChangeShapes Go.WideShapes Go.ChangeAt Go.RowKit
set_option linter.unusedVariables false
set_option linter.unusedSimpArgs false

/-- what it answers: a row of the call's own with one run more, in the old block or in a new one. -/
def Inserted (w0 : World) (base : Nat) (A : Option Addr) (rs : List Er) (n : Nat) (e : Ending) (w : World) : Prop :=
  ∃ A' c', e = .returned (.slice A' n c') ∧ w.ownsRow base 89 2 (.slice A' n c') n (rs.flatMap Er.L) ∧ w0.grownBy w (blk A) ∧ (blk A' = blk A ∨ ∀ g, blk A' = some g → w0.heap.size ≤ g)
theorem ownBlock_blk (A : Option Addr) (n c : Nat) : (Value.slice A n c).ownBlock = blk A := by cases A <;> rfl
set_option maxRecDepth 100000 in
set_option maxHeartbeats 4000000 in
theorem cinsEnd (rs : List Er) (A : Option Addr) (c base gv : Nat) (x : Er) (w : World) (hE : OwnR w base A c rs) (hb : base ≤ w.heap.size) (hv : Bxo w gv 89 x.L) (hn : rs.length ≤ 1048576) (k : Nat) (hk : k = rs.length) :
    Calls Try.prog 60 #[.slice A rs.length c, .int .i64 k, .slice (some ⟨gv, 0, none⟩) 1 1] w fun e w' => Inserted w base A (rs.take k ++ x :: rs.drop k) (rs.length + 1) e w' := by
  subst hk
  obtain ⟨i0, hi, hz0, hz1, hz2⟩ := info_parts info_run
  have HE := Go.Lib.hid hE
  have HV := Go.Lib.hid hv
  have hc := own_cap hE
  unfold maxLen at hc
  obtain ⟨hc1, hc2⟩ := hc
  have HRD : Hid (RdC w (some ⟨gv, 0, none⟩) x.L) := Go.Lib.hid (.inr ⟨_, rfl, hv.at⟩)
  have HX1 : Hid (∀ u ∈ x.L, u.oneCell' = true) := Go.Lib.hid (by simp [Er.L, Value.oneCell'])
  have HA : Hid (∃ ad1 : Option Addr, (if c = rs.length then A else ad1) = (if c = rs.length then A else ad1)) := Go.Lib.hid ⟨A, rfl⟩
  have b4 : (rs.length : Int) ≤ (c : Int) := by omega
  clear hE hv
  rcases A with _ | ad
  · have hz : rs.length = 0 ∧ c = 0 := by
      rcases own_addr HE.out with ⟨_, h1, h2⟩ | ⟨g, hg, _⟩
      · exact ⟨h1, h2⟩
      · cases hg
    obtain rfl : rs = [] := List.eq_nil_of_length_eq_zero hz.1
    obtain rfl := hz.2
    go_enter Try.func60, Try.ntmps60
    go_wp2_with (at_builtin; refine wpList_append_rdK rfl _ _ 65 rfl base 89 i0 _ 2 32 Try.underlying65 hi hz0 hz1 hz2 rfl (by omega) (.slice none 0 0) 0 [] rfl HE.out (some ⟨gv, 0, none⟩) 1 1 x.L rfl rfl (fun h => by cases h) HRD.out HX1.out (by unfold maxLen; omega) (by omega) hb ?_; intro v2 w2 ho2 hg2 hat2; have HO2 := Go.Lib.hid ho2; have HG2 := Go.Lib.hid hg2; have HAT2 := Go.Lib.hid hat2; clear ho2 hg2 hat2)
    obtain ⟨A2, c2, rfl⟩ := own_slice HO2.out
    go_ret
    exact ⟨A2, c2, rfl, by simpa using HO2.out, HG2.out, by
      rcases HAT2.out with h | h
      · exact .inl (by rw [ownBlock_blk] at h; exact h)
      · exact .inr (fun g hg => by rw [ownBlock_blk, hg] at h; injection h with h; omega)⟩
  · obtain ⟨g, e1, hg1, hg2⟩ := (own_addr HE.out).resolve_left (by rintro ⟨h, _⟩; cases h)
    injection e1 with e1
    subst e1
    obtain ⟨ad1, had1⟩ : ∃ ad1 : Addr, (if c = rs.length then some (⟨g, 0, none⟩ : Addr) else some ⟨g, rs.length * 2, none⟩) = some ad1 := by split <;> exact ⟨_, rfl⟩
    go_enter Try.func60, Try.ntmps60
    go_wp2_with (at_builtin; refine wpList_append_rdK rfl _ _ 65 rfl base 89 i0 _ 2 32 Try.underlying65 hi hz0 hz1 hz2 rfl (by omega) (.slice (some ⟨g, 0, none⟩) rs.length c) rs.length (rs.flatMap Er.L) rfl HE.out (some ⟨gv, 0, none⟩) 1 1 x.L rfl rfl (fun h => by cases h) HRD.out HX1.out (by unfold maxLen; omega) (by omega) hb ?_; intro v2 w2 ho2 hg2 hat2; have HO2 := Go.Lib.hid ho2; have HG2 := Go.Lib.hid hg2; have HAT2 := Go.Lib.hid hat2; clear ho2 hg2 hat2)
    obtain ⟨A2, c2, rfl⟩ := own_slice HO2.out
    go_ret
    exact ⟨A2, c2, rfl, by simpa using HO2.out, HG2.out, by
      rcases HAT2.out with h | h
      · exact .inl (by rw [ownBlock_blk] at h; exact h)
      · exact .inr (fun g hg => by rw [ownBlock_blk, hg] at h; injection h with h; omega)⟩
/-- the same row, as its cells are put together. -/
theorem ins_cells (rs : List Er) (x : Er) (k : Nat) (hk : k ≤ rs.length) (cur : List Value) (h0 : cur.take (k * 2) = (rs.take k).flatMap Er.L) (hl : (rs.length + 1) * 2 ≤ cur.length) :
    (spl (spl cur ((k + 1) * 2) ((rs.drop k).flatMap Er.L)) (k * 2) x.L).take ((rs.length + 1) * 2) = (rs.take k ++ x :: rs.drop k).flatMap Er.L := by
  have hd : ((rs.drop k).flatMap Er.L).length = (rs.length - k) * 2 := by rw [flat_len Er.L 2 Er.len, List.length_drop]
  have h1 : (k + 1) * 2 + ((rs.drop k).flatMap Er.L).length = (rs.length + 1) * 2 := by rw [hd]; omega
  have hs : (spl cur ((k + 1) * 2) ((rs.drop k).flatMap Er.L)).length = cur.length := spl_length _ _ _
  rw [spl_take x.L _ _ _ (by rw [Er.len]; omega) (by rw [hs]; exact hl), ← h1, spl_take_all _ _ _ (by omega)]
  have ht : (cur.take ((k + 1) * 2)).length = (k + 1) * 2 := by rw [List.length_take]; omega
  rw [spl_eq _ _ _ (by rw [Er.len, List.length_append, ht]; omega), Er.len, List.take_append_of_le_length (by rw [ht]; omega), List.take_take, Nat.min_eq_left (by omega), h0, show k * 2 + 2 = (k + 1) * 2 by omega]
  rw [List.drop_append, List.drop_eq_nil_of_le (by omega), ht, Nat.sub_self, List.drop_zero, List.nil_append, List.flatMap_append, List.flatMap_cons, List.append_assoc]
theorem ins_cells2 (rs : List Er) (x : Er) (k : Nat) (hk : k ≤ rs.length) (cur : List Value) (h0 : cur.take (k * 2) = (rs.take k).flatMap Er.L) (hl : (rs.length + 1) * 2 ≤ cur.length) :
    (spl (spl cur (k * 2) x.L) ((k + 1) * 2) ((rs.drop k).flatMap Er.L)).take ((rs.length + 1) * 2) = (rs.take k ++ x :: rs.drop k).flatMap Er.L := by
  have hd : ((rs.drop k).flatMap Er.L).length = (rs.length - k) * 2 := by rw [flat_len Er.L 2 Er.len, List.length_drop]
  have h1 : (k + 1) * 2 + ((rs.drop k).flatMap Er.L).length = (rs.length + 1) * 2 := by rw [hd]; omega
  have hs : (spl cur (k * 2) x.L).length = cur.length := spl_length _ _ _
  have hx := Er.len x
  rw [← h1, spl_take_all _ _ _ (by omega), show (k + 1) * 2 = k * 2 + x.L.length by rw [hx]; omega, spl_take_all _ _ _ (by omega), h0, List.flatMap_append, List.flatMap_cons, List.append_assoc]
set_option maxRecDepth 100000 in
set_option maxHeartbeats 4000000 in
theorem cinsGrow (rs : List Er) (g c base gv : Nat) (x : Er) (w : World) (hE : OwnR w base (some ⟨g, 0, none⟩) c rs) (hb : base ≤ w.heap.size) (hv : Bxo w gv 89 x.L) (hn : rs.length ≤ 1048576) (k : Nat) (hk : k < rs.length) (hroom : c < rs.length + 1) :
    Calls Try.prog 60 #[.slice (some ⟨g, 0, none⟩) rs.length c, .int .i64 k, .slice (some ⟨gv, 0, none⟩) 1 1] w fun e w' => Inserted w base (some ⟨g, 0, none⟩) (rs.take k ++ x :: rs.drop k) (rs.length + 1) e w' := by
  obtain ⟨i0, hi, hz0, hz1, hz2⟩ := info_parts info_run
  obtain ⟨cur, hcur, hcl, hct, hc1, hc2, hc3, hc4⟩ := own_open hE
  obtain rfl : c = rs.length := by omega
  have hgl := hcur.lt
  have hgvl := hv.lt
  have HE := Go.Lib.hid hE
  have HV := Go.Lib.hid hv
  have HT : Hid (cur = rs.flatMap Er.L) := Go.Lib.hid (by rw [← hct, List.take_of_length_le (by omega)])
  have HOLD : Hid ((Builtin.firstCells i0.size k (.slice (some ⟨g, 0, none⟩) k rs.length)).run Try.prog w.drew = .ok ((rs.take k).flatMap Er.L).toArray w.drew) := Go.Lib.hid (by
    rw [hz1]
    refine run_firstCells_some w.drew 2 k ⟨g, 0, none⟩ k rs.length ((rs.take k).flatMap Er.L) (by rw [flat_len Er.L 2 Er.len, List.length_take]; omega) (fun j v hj => ?_)
    have hjl := (List.getElem?_eq_some_iff.1 hj).1
    rw [flat_len Er.L 2 Er.len, List.length_take] at hjl
    rw [← flat_take Er.L 2 Er.len, List.getElem?_take, if_pos (by omega)] at hj
    rw [Addr.add_mid, Nat.zero_add]
    exact (own_cells hE j (by omega)).trans hj)
  have HOL : Hid (((rs.take k).flatMap Er.L).length = k * i0.size) := Go.Lib.hid (by rw [flat_len Er.L 2 Er.len, hz1, List.length_take]; congr 1; omega)
  clear hcur hcl hct hc1 hc2 hc3 hc4 hE hv
  have t1 : ((k : Int) == (rs.length : Int)) = false := by rw [beq_eq_false_iff_ne]; omega
  have b1 : (0 : Int) ≤ (k : Int) := by omega
  have b2 : (k : Int) ≤ (rs.length : Int) := by omega
  have b2n : k ≤ rs.length := by omega
  have b3 : (rs.length : Int) < (rs.length : Int) + 1 := by omega
  have had1 : (if rs.length = k then some (⟨g, 0, none⟩ : Addr) else some ⟨g, k * 2, none⟩) = some ⟨g, k * 2, none⟩ := if_neg (by omega)
  have s1 : IntKind.i64.wrap ((rs.length : Int) + 1) = (rs.length : Int) + 1 := IntWalk.i64_in _ (by omega)
  have s2 : IntKind.i64.wrap ((rs.length : Int) + 1 - (k : Int)) = (rs.length : Int) + 1 - (k : Int) := IntWalk.i64_in _ (by omega)
  obtain ⟨q, hq⟩ : ∃ q : Nat, (rs.length : Int) + 1 - (k : Int) = (q : Int) := ⟨rs.length + 1 - k, by omega⟩
  go_enter Try.func60, Try.ntmps60
  go_upto_region 9 with fail
  have hkq : k + q = rs.length + 1 := by omega
  have q0 : 0 < q := by omega
  go_upto_region 10 with (first
    | (refine wpList_append_zeros rfl _ _ 65 3 rfl 89 i0 _ .i64 Try.underlying65 Try.underlying3 hi hz0 hz1.symm (by rw [hz1]; omega) (some ⟨g, 0, none⟩) k rs.length ((rs.take k).flatMap Er.L) rfl HOLD.out HOL.out q .i64 rfl q0 (by omega) (by rw [hz2]; omega) (by unfold maxLen; omega) ?_; intro w9 cq rest9 h91 h92 h93 hb9 y9 e9; rw [hz1] at h93; have HB9 := Go.Lib.hid hb9; have H93 := Go.Lib.hid h93; clear hb9 h93))
  have HL9 := Go.Lib.hid (H93.out)
  unfold maxLen at h92
  have HX1 : Hid (∀ u ∈ x.L, u.oneCell' = true) := Go.Lib.hid (by simp [Er.L, Value.oneCell'])
  have HV9 := Go.Lib.hid (HV.out.keep y9 hgvl)
  have had9 : (if cq = k then some (⟨w.heap.size, 0, none⟩ : Addr) else some ⟨w.heap.size, k * 2, none⟩) = some ⟨w.heap.size, k * 2, none⟩ := if_neg (by omega)
  have had10 : (if cq = k + 1 then some (⟨w.heap.size, 0, none⟩ : Addr) else some ⟨w.heap.size, (k + 1) * 2, none⟩) = some ⟨w.heap.size, (k + 1) * 2, none⟩ := if_neg (by omega)
  have b5 : (k : Int) ≤ (rs.length : Int) + 1 := by omega
  have b6 : (rs.length : Int) + 1 ≤ (cq : Int) := by omega
  have b7 : (0 : Int) ≤ (k : Int) + 1 := by omega
  have b8 : (k : Int) + 1 ≤ (rs.length : Int) + 1 := by omega
  have b9 : ((k : Int) + 1).toNat = k + 1 := by omega
  have b10 : rs.length + 1 - (k + 1) = rs.length - k := by omega
  have s3 : IntKind.i64.wrap ((k : Int) + 1) = (k : Int) + 1 := IntWalk.i64_in _ (by omega)
  have HFX : Hid (k * 2 + x.L.length ≤ ((rs.take k).flatMap Er.L ++ rest9).length) := Go.Lib.hid (by rw [H93.out, Er.len]; omega)
  have HNX : Hid (x.L.length = Nat.min 1 (rs.length + 1 - k) * 2) := Go.Lib.hid (by rw [Er.len, show Nat.min 1 (rs.length + 1 - k) = 1 from Nat.min_eq_left (by omega)])
  go_upto_region 11 with (first
    | (refine wpList_copy_row rfl _ _ 65 65 rfl 89 2 Try.underlying65 info_rn w.heap.size (k * 2) (rs.length + 1 - k) (cq - k) _ rfl HB9.out ⟨gv, 0, none⟩ 1 1 x.L rfl HNX.out HV9.out.at HX1.out HFX.out ?_; intro w10 hb10 ho10 v10; have HB10 : Hid (Bxo w10.drew w.heap.size 89 (spl ((rs.take k).flatMap Er.L ++ rest9) (k * 2) x.L)) := Go.Lib.hid hb10; clear hb10))
  have HNL : Hid (((rs.drop k).flatMap Er.L).length = Nat.min (rs.length - k) (rs.length - k) * 2) := Go.Lib.hid (by rw [flat_len Er.L 2 Er.len, List.length_drop, show Nat.min (rs.length - k) (rs.length - k) = rs.length - k from Nat.min_eq_left (Nat.le_refl _)])
  have HNW : Hid (∀ j v, ((rs.drop k).flatMap Er.L)[j]? = some v → w10.drew.cell? ((⟨g, k * 2, none⟩ : Addr).add j) = some v) := Go.Lib.hid (fun j v hj => by
    have hjl := (List.getElem?_eq_some_iff.1 hj).1
    rw [flat_len Er.L 2 Er.len, List.length_drop] at hjl
    rw [← flat_drop Er.L 2 Er.len, List.getElem?_drop] at hj
    rw [Addr.add_mid]
    have h1 := (own_cells HE.out (k * 2 + j) (by omega)).trans hj
    have h2 : w10.heap[g]? = w.heap[g]? := (ho10.block g (by omega)).trans (y9.block g hgl)
    exact (World.cell?_of_block (w := w) (w' := w10.drew) (a := ⟨g, k * 2 + j, none⟩) h2).trans h1)
  have HFIT : Hid ((k + 1) * 2 + ((rs.drop k).flatMap Er.L).length ≤ (spl ((rs.take k).flatMap Er.L ++ rest9) (k * 2) x.L).length) := Go.Lib.hid (by rw [spl_length, H93.out, flat_len Er.L 2 Er.len, List.length_drop]; omega)
  try simp only [Act.put, List.setIfInBounds_toArray, List.set_cons_zero, List.set_cons_succ]
  refine wp_region_held_drew (S := fun Y => Only w.heap.size w10 Y) (by kernel_rfl) ?_ (fun hHeld => ?_)
  · exact Only.refl.drew
  refine wpAnyH_take (i := 0) (oi := ⟨some 46, _, _, _, _, _⟩) (v := ?_) rfl (by kernel_rfl) (by kernel_rfl) (by kernel_rfl) (fun _ _ _ h => h) (Or.inl ⟨by rfl, ?_⟩) (by assumption) ?_
  rotate_left
  · intro w hSw; (try dsimp only at hSw); go_simp; (try with_reducible rfl)
  try simp only [Act.put, List.setIfInBounds_toArray, List.set_cons_zero, List.set_cons_succ]
  refine wpAnyH_take (i := 1) (oi := ⟨some 47, _, _, _, _, _⟩) (v := ?_) rfl (by kernel_rfl) (by kernel_rfl) (by kernel_rfl) (fun _ _ _ h => h) (Or.inl ⟨by rfl, ?_⟩) (by assumption) ?_
  rotate_left
  · intro w hSw; (try dsimp only at hSw); go_simp; (try with_reducible rfl)
  try simp only [Act.put, List.setIfInBounds_toArray, List.set_cons_zero, List.set_cons_succ]
  refine wpAnyH_take (i := 2) (oi := ⟨some 48, _, _, _, _, _⟩) (v := ?_) rfl (by kernel_rfl) (by kernel_rfl) (by kernel_rfl) (fun _ _ _ h => h) (Or.inl ⟨by rfl, ?_⟩) (by assumption) ?_
  rotate_left
  · intro w hSw; (try dsimp only at hSw); go_simp; (try with_reducible rfl)
  try simp only [Act.put, List.setIfInBounds_toArray, List.set_cons_zero, List.set_cons_succ]
  refine wpAnyH_take (i := 3) (oi := ⟨some 49, _, _, _, _, _⟩) (v := ?_) rfl (by kernel_rfl) (by kernel_rfl) (by kernel_rfl) (fun _ _ _ h => h) (Or.inl ⟨by rfl, ?_⟩) (by assumption) ?_
  rotate_left
  · intro w hSw; (try dsimp only at hSw); go_simp; (try with_reducible rfl)
  try simp only [Act.put, List.setIfInBounds_toArray, List.set_cons_zero, List.set_cons_succ]
  refine wpAnyH_take (i := 4) (oi := ⟨some 50, _, _, _, _, _⟩) (v := ?_) rfl (by kernel_rfl) (by kernel_rfl) (by kernel_rfl) (fun _ _ _ h => h) (Or.inl ⟨by rfl, ?_⟩) (by assumption) ?_
  rotate_left
  · intro w hSw; (try dsimp only at hSw); go_simp; (try with_reducible rfl)
  try simp only [Act.put, List.setIfInBounds_toArray, List.set_cons_zero, List.set_cons_succ]
  refine wpAnyH_take (i := 5) (oi := ⟨some 51, _, _, _, _, _⟩) (v := ?_) rfl (by kernel_rfl) (by kernel_rfl) (by kernel_rfl) (fun _ _ _ h => h) (Or.inl ⟨by rfl, ?_⟩) (by assumption) ?_
  rotate_left
  · intro w hSw; (try dsimp only at hSw); go_simp; (try with_reducible rfl)
  try simp only [Act.put, List.setIfInBounds_toArray, List.set_cons_zero, List.set_cons_succ]
  refine wpAnyH_take (i := 6) (oi := ⟨some 52, _, _, _, _, _⟩) (v := ?_) rfl (by kernel_rfl) (by kernel_rfl) (by kernel_rfl) (fun _ _ _ h => h) (Or.inl ⟨by rfl, ?_⟩) (by assumption) ?_
  rotate_left
  · intro w hSw; (try dsimp only at hSw); go_simp; (try with_reducible rfl)
  try simp only [Act.put, List.setIfInBounds_toArray, List.set_cons_zero, List.set_cons_succ]
  refine wpAnyH_take (i := 7) (oi := ⟨some 53, _, _, _, _, _⟩) (v := ?_) rfl (by kernel_rfl) (by kernel_rfl) (by kernel_rfl) (fun _ _ _ h => h) (Or.inl ⟨by rfl, ?_⟩) (by assumption) ?_
  rotate_left
  · intro w hSw; (try dsimp only at hSw); go_simp; (try with_reducible rfl)
  try simp only [Act.put, List.setIfInBounds_toArray, List.set_cons_zero, List.set_cons_succ]
  refine wpAnyH_ready (rs := [8]) (by kernel_rfl) (by simp) (AllReadyH.cons (o := ⟨some 54, _, _, _, _, _⟩) rfl (fun Kc hKc => ?_) AllReadyH.nil)
  rw [if_pos (by rfl)]
  refine step_copy_row _ _ 65 65 rfl 89 2 Try.underlying65 info_rn w.heap.size ((k + 1) * 2) (rs.length - k) (cq - (k + 1)) _ rfl HB10.out ⟨g, k * 2, none⟩ (rs.length - k) (rs.length - k) ((rs.drop k).flatMap Er.L) rfl HNL.out HNW.out (er_one _) HFIT.out ?_; intro w11 hb11 ho11 v11; have HB11 := Go.Lib.hid hb11; clear hb11
  refine hKc.out _ _ (hHeld.trans ho11) (fun hHeld => ?_)
  clear hKc Kc
  try simp only [Act.put, List.setIfInBounds_toArray, List.set_cons_zero, List.set_cons_succ]
  refine wpAnyH_done (by kernel_rfl) ?_ _
  have HO11 := Go.Lib.hid hHeld
  clear hHeld
  go_wp2
  go_ret
  have hsz := HO11.out.size
  have hsz2 := ho10.size
  refine ⟨some ⟨w.heap.size, 0, none⟩, cq, rfl, own_shut HB11.out (by rw [spl_length, spl_length]; exact H93.out) ?_ hb (by omega) (by unfold maxLen; omega) (by rw [flat_len Er.L 2 Er.len]; simp; omega), ⟨(HO11.out.os.trans ho10.os).trans y9.os, (HO11.out.tape.trans ho10.tape).trans y9.tape, (HO11.out.output.trans ho10.output).trans y9.output, by omega, fun y hy hyg => ((HO11.out.block y (by omega)).trans (ho10.block y (by omega))).trans (y9.block y hy)⟩, .inr (fun g' hg' => by injection hg' with hg'; have hg' : w.heap.size = g' := hg'; omega)⟩
  rw [← ins_cells2 rs x k (Nat.le_of_lt hk) ((rs.take k).flatMap Er.L ++ rest9) (by rw [List.take_append_of_le_length (by rw [HOL.out, hz1]; omega), List.take_of_length_le (by rw [HOL.out, hz1]; omega)]) (by rw [H93.out]; omega)]
set_option maxRecDepth 100000 in
set_option maxHeartbeats 4000000 in
theorem cinsRoom (rs : List Er) (g c base gv : Nat) (x : Er) (w : World) (hE : OwnR w base (some ⟨g, 0, none⟩) c rs) (hb : base ≤ w.heap.size) (hv : Bxo w gv 89 x.L) (hgv : gv ≠ g) (hn : rs.length ≤ 1048576) (k : Nat) (hk : k < rs.length) (hroom : rs.length + 1 ≤ c) :
    Calls Try.prog 60 #[.slice (some ⟨g, 0, none⟩) rs.length c, .int .i64 k, .slice (some ⟨gv, 0, none⟩) 1 1] w fun e w' => Inserted w base (some ⟨g, 0, none⟩) (rs.take k ++ x :: rs.drop k) (rs.length + 1) e w' := by
  obtain ⟨cur, hcur, hcl, hct, hc1, hc2, hc3, hc4⟩ := own_open hE
  unfold maxLen at hc3
  have hgl := hcur.lt
  have hgvl := hv.lt
  have HE := Go.Lib.hid hE
  have HV := Go.Lib.hid hv
  have HCUR : Hid (Bxo w.drew g 89 cur) := Go.Lib.hid hcur
  have HCL := Go.Lib.hid hcl
  have HCT := Go.Lib.hid hct
  have HC1 := Go.Lib.hid hc1
  have hov : ∀ lb cb, (callFunc 68 #[.slice (some ⟨gv, 0, none⟩) 1 1, .slice (some ⟨g, (k + 1) * 2, none⟩) lb cb]).run Try.prog w = .ok (.value (.bool false)) w := fun lb cb => by
    rw [run_callFunc_extern Try.func68 (by kernel_rfl) (by kernel_rfl) (by kernel_rfl) (e := Extern.SlicesOverlaps.overlaps #[65, 65] #[4]) (by kernel_rfl),
      Lib.run_overlaps_apart w 65 4 89 Try.underlying65 2 Try.sizeOf89 ⟨gv, 0, none⟩ ⟨g, (k + 1) * 2, none⟩ 1 1 lb cb hgv 89 89 2 (c * 2) (by unfold World.shape?; rw [hv]; rfl) (by unfold World.shape?; rw [hcur]; simp [hcl]) (by omega) (hv.frozen 0) (hv.frozen 2)]
    rfl
  have HOV := Go.Lib.hid hov
  clear hcur hcl hct hc1 hc4 hE hv hov
  have t1 : ((k : Int) == (rs.length : Int)) = false := by rw [beq_eq_false_iff_ne]; omega
  have b1 : (0 : Int) ≤ (k : Int) := by omega
  have b2 : (k : Int) ≤ (rs.length : Int) := by omega
  have b2n : k ≤ rs.length := by omega
  have b3 : ¬ (c : Int) < (rs.length : Int) + 1 := by omega
  have had1 : (if c = k then some (⟨g, 0, none⟩ : Addr) else some ⟨g, k * 2, none⟩) = some ⟨g, k * 2, none⟩ := if_neg (by omega)
  have had2 : (if c = k + 1 then some (⟨g, 0, none⟩ : Addr) else some ⟨g, (k + 1) * 2, none⟩) = some ⟨g, (k + 1) * 2, none⟩ := if_neg (by omega)
  have s1 : IntKind.i64.wrap ((rs.length : Int) + 1) = (rs.length : Int) + 1 := IntWalk.i64_in _ (by omega)
  have s3 : IntKind.i64.wrap ((k : Int) + 1) = (k : Int) + 1 := IntWalk.i64_in _ (by omega)
  have b5 : (k : Int) ≤ (rs.length : Int) + 1 := by omega
  have b6 : (rs.length : Int) + 1 ≤ (c : Int) := by omega
  have b7 : (0 : Int) ≤ (k : Int) + 1 := by omega
  have b7b : (0 : Int) ≤ (rs.length : Int) + 1 := by omega
  have b8 : (k : Int) + 1 ≤ (rs.length : Int) + 1 := by omega
  have b9 : ((k : Int) + 1).toNat = k + 1 := by omega
  have b9b : ((rs.length : Int) + 1).toNat = rs.length + 1 := by omega
  have b10 : rs.length + 1 - (k + 1) = rs.length - k := by omega
  have HX1 : Hid (∀ u ∈ x.L, u.oneCell' = true) := Go.Lib.hid (by simp [Er.L, Value.oneCell'])
  have HNL : Hid (((rs.drop k).flatMap Er.L).length = Nat.min (rs.length + 1 - k) (rs.length - k) * 2) := Go.Lib.hid (by rw [flat_len Er.L 2 Er.len, List.length_drop, show Nat.min (rs.length + 1 - k) (rs.length - k) = rs.length - k from Nat.min_eq_right (by omega)])
  have HNW : Hid (∀ j v, ((rs.drop k).flatMap Er.L)[j]? = some v → w.drew.cell? ((⟨g, k * 2, none⟩ : Addr).add j) = some v) := Go.Lib.hid (fun j v hj => by
    have hjl := (List.getElem?_eq_some_iff.1 hj).1
    rw [flat_len Er.L 2 Er.len, List.length_drop] at hjl
    rw [← flat_drop Er.L 2 Er.len, List.getElem?_drop] at hj
    rw [Addr.add_mid]
    exact (own_cells HE.out (k * 2 + j) (by omega)).trans hj)
  have HFIT : Hid ((k + 1) * 2 + ((rs.drop k).flatMap Er.L).length ≤ cur.length) := Go.Lib.hid (by rw [HCL.out, flat_len Er.L 2 Er.len, List.length_drop]; omega)
  go_enter Try.func60, Try.ntmps60
  go_upto_region 14 with fail
  have hov := HOV.out
  go_upto_region 15 with fail
  clear hov
  try simp only [Act.put, List.setIfInBounds_toArray, List.set_cons_zero, List.set_cons_succ]
  refine wp_region_held_drew (S := fun Y => Only g w Y) (by kernel_rfl) ?_ (fun hHeld => ?_)
  · exact Only.refl.drew
  refine wpAnyH_take (i := 0) (oi := ⟨some 69, _, _, _, _, _⟩) (v := ?_) rfl (by kernel_rfl) (by kernel_rfl) (by kernel_rfl) (fun _ _ _ h => h) (Or.inl ⟨by rfl, ?_⟩) (by assumption) ?_
  rotate_left
  · intro w hSw; (try dsimp only at hSw); go_simp; (try with_reducible rfl)
  try simp only [Act.put, List.setIfInBounds_toArray, List.set_cons_zero, List.set_cons_succ]
  refine wpAnyH_take (i := 1) (oi := ⟨some 70, _, _, _, _, _⟩) (v := ?_) rfl (by kernel_rfl) (by kernel_rfl) (by kernel_rfl) (fun _ _ _ h => h) (Or.inl ⟨by rfl, ?_⟩) (by assumption) ?_
  rotate_left
  · intro w hSw; (try dsimp only at hSw); go_simp; (try with_reducible rfl)
  try simp only [Act.put, List.setIfInBounds_toArray, List.set_cons_zero, List.set_cons_succ]
  refine wpAnyH_take (i := 2) (oi := ⟨some 71, _, _, _, _, _⟩) (v := ?_) rfl (by kernel_rfl) (by kernel_rfl) (by kernel_rfl) (fun _ _ _ h => h) (Or.inl ⟨by rfl, ?_⟩) (by assumption) ?_
  rotate_left
  · intro w hSw; (try dsimp only at hSw); go_simp; (try with_reducible rfl)
  try simp only [Act.put, List.setIfInBounds_toArray, List.set_cons_zero, List.set_cons_succ]
  refine wpAnyH_take (i := 3) (oi := ⟨some 72, _, _, _, _, _⟩) (v := ?_) rfl (by kernel_rfl) (by kernel_rfl) (by kernel_rfl) (fun _ _ _ h => h) (Or.inl ⟨by rfl, ?_⟩) (by assumption) ?_
  rotate_left
  · intro w hSw; (try dsimp only at hSw); go_simp; (try with_reducible rfl)
  try simp only [Act.put, List.setIfInBounds_toArray, List.set_cons_zero, List.set_cons_succ]
  refine wpAnyH_take (i := 4) (oi := ⟨some 73, _, _, _, _, _⟩) (v := ?_) rfl (by kernel_rfl) (by kernel_rfl) (by kernel_rfl) (fun _ _ _ h => h) (Or.inl ⟨by rfl, ?_⟩) (by assumption) ?_
  rotate_left
  · intro w hSw; (try dsimp only at hSw); go_simp; (try with_reducible rfl)
  try simp only [Act.put, List.setIfInBounds_toArray, List.set_cons_zero, List.set_cons_succ]
  refine wpAnyH_take (i := 5) (oi := ⟨some 74, _, _, _, _, _⟩) (v := ?_) rfl (by kernel_rfl) (by kernel_rfl) (by kernel_rfl) (fun _ _ _ h => h) (Or.inl ⟨by rfl, ?_⟩) (by assumption) ?_
  rotate_left
  · intro w hSw; (try dsimp only at hSw); go_simp; (try with_reducible rfl)
  try simp only [Act.put, List.setIfInBounds_toArray, List.set_cons_zero, List.set_cons_succ]
  refine wpAnyH_take (i := 6) (oi := ⟨some 75, _, _, _, _, _⟩) (v := ?_) rfl (by kernel_rfl) (by kernel_rfl) (by kernel_rfl) (fun _ _ _ h => h) (Or.inl ⟨by rfl, ?_⟩) (by assumption) ?_
  rotate_left
  · intro w hSw; (try dsimp only at hSw); go_simp; (try with_reducible rfl)
  try simp only [Act.put, List.setIfInBounds_toArray, List.set_cons_zero, List.set_cons_succ]
  refine wpAnyH_take (i := 7) (oi := ⟨some 76, _, _, _, _, _⟩) (v := ?_) rfl (by kernel_rfl) (by kernel_rfl) (by kernel_rfl) (fun _ _ _ h => h) (Or.inl ⟨by rfl, ?_⟩) (by assumption) ?_
  rotate_left
  · intro w hSw; (try dsimp only at hSw); go_simp; (try with_reducible rfl)
  try simp only [Act.put, List.setIfInBounds_toArray, List.set_cons_zero, List.set_cons_succ]
  refine wpAnyH_ready (rs := [8]) (by kernel_rfl) (by simp) (AllReadyH.cons (o := ⟨some 77, _, _, _, _, _⟩) rfl (fun Kc hKc => ?_) AllReadyH.nil)
  rw [if_pos (by rfl)]
  refine step_copy_row _ _ 65 65 rfl 89 2 Try.underlying65 info_rn g ((k + 1) * 2) (rs.length - k) (c - (k + 1)) _ rfl HCUR.out ⟨g, k * 2, none⟩ (rs.length + 1 - k) (c - k) ((rs.drop k).flatMap Er.L) rfl HNL.out HNW.out (er_one _) HFIT.out ?_; intro w11 hb11 ho11 v11; have HB11 := Go.Lib.hid hb11; clear hb11
  refine hKc.out _ _ (hHeld.trans ho11) (fun hHeld => ?_)
  clear hKc Kc
  try simp only [Act.put, List.setIfInBounds_toArray, List.set_cons_zero, List.set_cons_succ]
  refine wpAnyH_done (by kernel_rfl) ?_ _
  have HO11 := Go.Lib.hid hHeld
  have HV11 := Go.Lib.hid (HV.out.only hHeld hgv)
  clear hHeld
  have HNX : Hid (x.L.length = Nat.min 1 (rs.length + 1 - k) * 2) := Go.Lib.hid (by rw [Er.len, show Nat.min 1 (rs.length + 1 - k) = 1 from Nat.min_eq_left (by omega)])
  have HFX : Hid (k * 2 + x.L.length ≤ (spl cur ((k + 1) * 2) ((rs.drop k).flatMap Er.L)).length) := Go.Lib.hid (by rw [spl_length, HCL.out, Er.len]; omega)
  go_wp2_with (first
    | (refine wpList_copy_row rfl _ _ 65 65 rfl 89 2 Try.underlying65 info_rn g (k * 2) (rs.length + 1 - k) (c - k) _ rfl HB11.out ⟨gv, 0, none⟩ 1 1 x.L rfl HNX.out HV11.out.at HX1.out HFX.out ?_; intro w12 hb12 ho12 v12; have HB12 := Go.Lib.hid hb12; clear hb12))
  go_ret
  refine ⟨some ⟨g, 0, none⟩, c, rfl, own_shut HB12.out (by rw [spl_length, spl_length]; exact HCL.out) ?_ HC1.out hroom (by unfold maxLen; omega) (by rw [flat_len Er.L 2 Er.len]; simp; omega), ⟨ho12.os.trans HO11.out.os, ho12.tape.trans HO11.out.tape, ho12.output.trans HO11.out.output, by rw [ho12.size, HO11.out.size]; exact Nat.le_refl _, fun y hy hyg => (ho12.block y (fun e => hyg (by rw [e]; rfl))).trans (HO11.out.block y (fun e => hyg (by rw [e]; rfl)))⟩, .inl rfl⟩
  rw [← ins_cells rs x k (Nat.le_of_lt hk) cur (by
    have h := HCT.out
    rw [← flat_take Er.L 2 Er.len, ← h, List.take_take, Nat.min_eq_left (by omega)]) (by rw [HCL.out]; omega)]
end Go.Proofs.Ytmblkgnjcmneeaa

/- The pieces of a packet, in any order, make it: plain mathematics. -/
namespace Go.Proofs.Ytmblkgnjcmneeaa
open Go.RowKit
set_option linter.unusedVariables false

/-- the pieces of a packet in their order, and whether each has come. -/
abbrev Mk := List (Rn × Bool)
def allR (M : Mk) : List Rn := M.map (fun a => a.1)
def tkR : Mk → List Rn
  | [] => []
  | (r, true) :: t => r :: tkR t
  | (_, false) :: t => tkR t
def SeqR : Int → List Rn → Prop
  | _, [] => True
  | i, r :: t => r.off = i ∧ 0 < r.data.length ∧ SeqR (stopR r) t
def firstT : Mk → Bool
  | [] => false
  | a :: _ => a.2
def lastT : Mk → Bool
  | [] => false
  | [a] => a.2
  | _ :: b :: t => lastT (b :: t)
def dataR : List Rn → List UInt8
  | [] => []
  | r :: t => r.data ++ dataR t
theorem dataR_length : ∀ l : List Rn, (dataR l).length = heldR l
  | [] => rfl
  | r :: t => by simp [dataR, heldR, dataR_length t]
theorem seq_mem : ∀ (l : List Rn) (i : Int), SeqR i l → ∀ r ∈ l, i ≤ r.off ∧ 0 < r.data.length ∧ stopR r ≤ i + (heldR l : Int)
  | [], _, _, r, h => by cases h
  | a :: t, i, ⟨h1, h2, h3⟩, r, h => by
    rcases List.mem_cons.1 h with rfl | h
    · refine ⟨by omega, h2, ?_⟩
      simp only [heldR, stopR]; omega
    · obtain ⟨g1, g2, g3⟩ := seq_mem t _ h3 r h
      unfold stopR at g1 g3 ⊢
      refine ⟨by omega, g2, ?_⟩
      simp only [heldR]; omega
theorem tk_all : ∀ (M : Mk), ∀ r ∈ tkR M, r ∈ allR M
  | [], r, h => by cases h
  | (a, true) :: t, r, h => by
    rcases List.mem_cons.1 (show r ∈ a :: tkR t from h) with rfl | h
    · exact List.mem_cons_self
    · exact List.mem_cons_of_mem _ (tk_all t r h)
  | (a, false) :: t, r, h => List.mem_cons_of_mem _ (tk_all t r h)
theorem held_tk : ∀ (M : Mk), heldR (tkR M) ≤ heldR (allR M)
  | [] => Nat.le_refl _
  | (a, true) :: t => by have := held_tk t; show a.data.length + heldR (tkR t) ≤ a.data.length + heldR (allR t); omega
  | (a, false) :: t => by have := held_tk t; show heldR (tkR t) ≤ a.data.length + heldR (allR t); omega
/-- a piece more has come. -/
def setM (M : Mk) (i : Nat) (r : Rn) : Mk := M.set i (r, true)
theorem set_all : ∀ (M : Mk) (i : Nat) (r : Rn), M[i]? = some (r, false) → allR (setM M i r) = allR M
  | [], i, r, h => by simp at h
  | a :: t, 0, r, h => by simp at h; subst h; rfl
  | a :: t, i + 1, r, h => by
    have := set_all t i r (by simpa using h)
    show a.1 :: allR (setM t i r) = a.1 :: allR t
    rw [this]
theorem at_all : ∀ (M : Mk) (i : Nat) (r : Rn), M[i]? = some (r, false) → r ∈ allR M := fun M i r h => List.mem_map.2 ⟨(r, false), List.mem_of_getElem? h, rfl⟩
theorem ins_set : ∀ (M : Mk) (i : Nat) (r : Rn) (k : Int), SeqR k (allR M) → M[i]? = some (r, false) → insR (tkR M) r = tkR (setM M i r)
  | [], i, r, k, _, h => by simp at h
  | a :: t, 0, r, k, ⟨h1, h2, h3⟩, h => by
    simp at h
    subst h
    show insR (tkR t) r = r :: tkR t
    cases hc : tkR t with
    | nil => rfl
    | cons c s =>
      have := (seq_mem _ _ h3 c (tk_all t c (by rw [hc]; simp))).1
      unfold stopR at this
      dsimp only at this h2
      unfold insR
      rw [if_pos (by omega)]
  | (a, f) :: t, i + 1, r, k, ⟨h1, h2, h3⟩, h => by
    have ht : t[i]? = some (r, false) := by simpa using h
    have ih := ins_set t i r _ h3 ht
    cases f with
    | true =>
      show insR (a :: tkR t) r = a :: tkR (setM t i r)
      have := (seq_mem _ _ h3 r (at_all t i r ht)).1
      unfold stopR at this
      dsimp only at this h2
      unfold insR
      rw [if_neg (by omega), ih]
    | false => exact ih
/-- pieces don't overlap. -/
theorem apart : ∀ (M : Mk) (i : Nat) (r : Rn) (k : Int), SeqR k (allR M) → M[i]? = some (r, false) → ∀ c ∈ tkR M, stopR c ≤ r.off ∨ stopR r ≤ c.off
  | [], i, r, k, _, h, c, hc => by cases hc
  | a :: t, 0, r, k, ⟨h1, h2, h3⟩, h, c, hc => by
    simp at h
    subst h
    exact .inr (seq_mem _ _ h3 c (tk_all t c hc)).1
  | (a, f) :: t, i + 1, r, k, ⟨h1, h2, h3⟩, h, c, hc => by
    have ht : t[i]? = some (r, false) := by simpa using h
    cases f with
    | true =>
      rcases List.mem_cons.1 (show c ∈ a :: tkR t from hc) with rfl | hc
      · exact .inl (seq_mem _ _ h3 r (at_all t i r ht)).1
      · exact apart t i r _ h3 ht c hc
    | false => exact apart t i r _ h3 ht c hc
def allT (M : Mk) : Bool := M.all (fun a => a.2)
theorem body_all : ∀ (M : Mk) (acc : List UInt8), SeqR (acc.length : Int) (allR M) → allT M = true → bodyR (tkR M) acc = acc ++ dataR (allR M)
  | [], acc, _, _ => by simp [tkR, bodyR, allR, dataR]
  | (a, f) :: t, acc, ⟨h1, h2, h3⟩, h => by
    have hf : f = true ∧ allT t = true := by simpa [allT] using h
    obtain ⟨rfl, ht⟩ := hf
    show bodyR (a :: tkR t) acc = acc ++ (a.data ++ dataR (allR t))
    unfold bodyR
    dsimp only at h1
    rw [if_pos h1, body_all t (acc ++ a.data) (by have e : ((acc ++ a.data).length : Int) = stopR a := (by rw [List.length_append]; unfold stopR; omega); rw [e]; exact h3) ht, List.append_assoc]
theorem body_less : ∀ (M : Mk) (acc : List UInt8), SeqR (acc.length : Int) (allR M) → allT M = false → (bodyR (tkR M) acc).length < acc.length + heldR (allR M)
  | [], acc, _, h => by simp [allT] at h
  | (a, true) :: t, acc, ⟨h1, h2, h3⟩, h => by
    have ht : allT t = false := by simpa [allT] using h
    show (bodyR (a :: tkR t) acc).length < acc.length + (a.data.length + heldR (allR t))
    unfold bodyR
    dsimp only at h1
    rw [if_pos h1]
    have := body_less t (acc ++ a.data) (by have e : ((acc ++ a.data).length : Int) = stopR a := (by rw [List.length_append]; unfold stopR; omega); rw [e]; exact h3) ht
    rw [List.length_append] at this
    omega
  | (a, false) :: t, acc, ⟨h1, h2, h3⟩, h => by
    show (bodyR (tkR t) acc).length < acc.length + (a.data.length + heldR (allR t))
    dsimp only at h1 h2
    cases hc : tkR t with
    | nil => show acc.length < _; omega
    | cons c s =>
      have := (seq_mem _ _ h3 c (tk_all t c (by rw [hc]; simp))).1
      unfold stopR at this
      dsimp only at this
      unfold bodyR
      rw [if_neg (by omega)]
      omega
theorem tk_nil : ∀ (M : Mk), tkR M = [] → firstT M = false ∧ lastT M = false
  | [], _ => ⟨rfl, rfl⟩
  | [(a, true)], h => by cases h
  | [(a, false)], h => ⟨rfl, rfl⟩
  | (a, true) :: b :: t, h => by cases h
  | (a, false) :: b :: t, h => ⟨rfl, (tk_nil (b :: t) h).2⟩
theorem last_set : ∀ (M : Mk) (i : Nat) (r : Rn), M[i]? = some (r, false) → lastT (setM M i r) = (lastT M || decide (i + 1 = M.length))
  | [], i, r, h => by simp at h
  | [a], 0, r, h => by simp at h; subst h; rfl
  | [a], i + 1, r, h => by simp at h
  | a :: b :: t, 0, r, h => by
    simp at h; subst h
    show lastT (b :: t) = (lastT (b :: t) || decide (0 + 1 = (b :: t).length + 1))
    simp
  | a :: b :: t, i + 1, r, h => by
    have := last_set (b :: t) i r (by simpa using h)
    have e : decide (i + 1 + 1 = (a :: b :: t).length) = decide (i + 1 = (b :: t).length) := by simp
    rw [e, show lastT (a :: b :: t) = lastT (b :: t) from rfl, ← this]
    show lastT (a :: setM (b :: t) i r) = lastT (setM (b :: t) i r)
    unfold setM
    cases i with
    | zero => rfl
    | succ i => rfl
theorem first_set : ∀ (M : Mk) (i : Nat) (r : Rn) , SeqR 0 (allR M) → M[i]? = some (r, false) → firstT (setM M i r) = (firstT M || r.off == 0) ∧ (r.off = 0 → i = 0)
  | [], i, r, _, h => by simp at h
  | a :: t, 0, r, ⟨h1, h2, h3⟩, h => by
    simp at h; subst h
    refine ⟨?_, fun _ => rfl⟩
    dsimp only at h1
    show true = (false || r.off == 0)
    simp [h1]
  | a :: t, i + 1, r, ⟨h1, h2, h3⟩, h => by
    have ht : t[i]? = some (r, false) := by simpa using h
    have := (seq_mem _ _ h3 r (at_all t i r ht)).1
    unfold stopR at this
    have h0 : (r.off == 0) = false := by simp; omega
    refine ⟨?_, fun h => by simp [h] at h0⟩
    rw [h0, Bool.or_false]
    rfl
theorem stop_last : ∀ (M : Mk) (i : Nat) (r : Rn) (k : Int), SeqR k (allR M) → M[i]? = some (r, false) → i + 1 = M.length → stopR r = k + (heldR (allR M) : Int)
  | [], i, r, k, _, h, _ => by simp at h
  | a :: t, 0, r, k, ⟨h1, h2, h3⟩, h, hl => by
    simp at h; subst h
    have : t = [] := by simpa using hl
    subst this
    dsimp only at h1
    show r.off + (r.data.length : Int) = k + ((r.data.length + 0 : Nat) : Int)
    omega
  | a :: t, i + 1, r, k, ⟨h1, h2, h3⟩, h, hl => by
    have := stop_last t i r _ h3 (by simpa using h) (by simpa using hl)
    rw [this]
    unfold stopR
    dsimp only at h1
    show a.1.off + (a.1.data.length : Int) + (heldR (allR t) : Int) = k + ((a.1.data.length + heldR (allR t) : Nat) : Int)
    omega
theorem last_not : ∀ (M : Mk) (i : Nat) (r : Rn), M[i]? = some (r, false) → lastT M = true → i + 1 < M.length
  | [], i, r, h, _ => by simp at h
  | [a], 0, r, h, hl => by simp at h; subst h; cases hl
  | [a], i + 1, r, h, _ => by simp at h
  | a :: b :: t, 0, r, h, _ => by simp
  | a :: b :: t, i + 1, r, h, hl => by have := last_not (b :: t) i r (by simpa using h) hl; simp at this ⊢; omega
end Go.Proofs.Ytmblkgnjcmneeaa
