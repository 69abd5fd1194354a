/- Lemmas, several texts in one. -/
import Derived.Test.YtofpalmghdapkaaQ10
import Derived.Test.YtofpalmghdapkaaQ04
import Derived.WalkSpells
import Derived.Test.YtofpalmghdapkaaQ09
/- A wheel as a heap in a struct, its places in a map: a heap; take, move, put. -/
namespace Go.Proofs.Ytofpalmghdapkaa
open Go.ChangeShapes Go.WideShapes Go.ChangeAt Go.RowKit
set_option linter.unusedVariables false
set_option linter.unusedSimpArgs false

def heapG (g : Nat) (now : Int) : HeapC2 ⟨g, 0, none⟩ where
  Rep := fun w l F => ∃ A c mb, GR w g l now F A c mb
  size := fun ⟨_, _, _, h⟩ => h.size
  lt := fun ⟨_, _, _, h⟩ b hb => h.lt b hb
  keep := fun ⟨A, c, mb, h⟩ hk _ => ⟨A, c, mb, h.keep hk⟩
  less := fun ⟨_, _, _, h⟩ i j q hi hj hq => gless h i j q hi hj hq
  swap := fun ⟨A, c, mb, h⟩ i j hi hj => (gswap h i j hi hj).mono fun e w' ⟨h1, h2, h3⟩ => ⟨h1, ⟨A, c, mb, h2⟩, h3⟩
  any_ := anyA
  len_ := fun ⟨_, _, _, h⟩ n hn => glen h n hn
  push := fun ⟨_, _, _, h⟩ a ha hl hne => gpush h a ha hl hne
  Cut := fun w l n F => ∃ A c mb, GRp w g l n now F A c mb
  pop := fun ⟨A, c, mb, h⟩ n v hn hv => (gpop h n v hn hv).mono fun e w' ⟨h1, h2, h3⟩ => ⟨h1, ⟨A, c, mb, h2⟩, h3⟩
theorem GRo.cut {g : Nat} {l : List Al} {F : Nat → Prop} {A : Option Addr} {mb : Nat} (h : GRo g l F A mb) (n : Nat) : GRo g (l.take n) F A mb :=
  ⟨h.blocks, h.g1, h.g2, h.g3, List.Pairwise.sublist (List.take_sublist n l) h.once, fun a ha => h.rng a (List.mem_of_mem_take ha), by have := h.size; rw [List.length_take]; omega⟩
set_option maxRecDepth 100000 in
set_option maxHeartbeats 8000000 in
theorem gtake {w : World} {g : Nat} {now : Int} {l : List Al} {F : Nat → Prop} (h : (heapG g now).Rep w l F) (i : Nat) (hi : i < l.length) (hh : HeapA l l.length) (a : Al) (ha : atA l i = a) :
    Calls Try.prog 49 #[.pointer (some ⟨g, 0, none⟩), .int .i64 i] w fun e w' => e = .returned (.agg #[.int .i64 a.num, .int .i64 a.at_]) ∧ ∃ l', (heapG g now).Rep w' l' F ∧ Moves w w' F ∧ (a :: l').Perm l ∧ HeapA l' l'.length := by
  have HH := Go.Lib.hid hh
  have HA := Go.Lib.hid ha
  have y0 : Below w.heap.size w (w.alloc (.cells #[.int .i64 0, .int .i64 0] 104)) := (Below.refl _ _).alloc (Nat.le_refl _) _
  have hz0 := Bxo.made w 104 [.int .i64 0, .int .i64 0]
  have HK0 := Go.Lib.hid (HeapC.at h y0)
  have HFW : Hid (¬ F w.heap.size) := Go.Lib.hid (fun f => by have := (heapG g now).lt h _ f; omega)
  have tA := assertA a
  have HV : Hid ((heapG g now).any_ (atA l i) = .iface 104 (.agg #[.int .i64 a.num, .int .i64 a.at_])) := Go.Lib.hid (by rw [ha]; rfl)
  clear hh ha h
  go_enter Try.func49, Try.ntmps49
  go_upto_region 1 with fail
  have hs0 : (w.alloc (.cells #[.int .i64 0, .int .i64 0] 104)).heap.size = w.heap.size + 1 := by simp
  have HZ0 := Go.Lib.hid (show Bxo (w.alloc (.cells #[.int .i64 0, .int .i64 0] 104)) w.heap.size 104 [.int .i64 0, .int .i64 0] from hz0)
  clear hz0
  generalize w.alloc (.cells #[.int .i64 0, .int .i64 0] 104) = w0 at *
  go_upto_region 2 with (go_at_call 58; refine (hremove (heapG g now) l F i _ w0 HK0.out hi HH.out HV.out).mono ?_; rintro e w1 ⟨rfl, l1, n, k1, m1, hl1, p1, e1, h1⟩; have HK1 := Go.Lib.hid k1; have HM1 := Go.Lib.hid m1; have HL1 := Go.Lib.hid hl1; have HP1 := Go.Lib.hid p1; have HE1 := Go.Lib.hid (e1.trans HA.out); have HH1 := Go.Lib.hid h1; clear k1 m1 hl1 p1 e1 h1; dsimp only)
  obtain ⟨A, c, mb, hg1⟩ := HK1.out
  have HGO := Go.Lib.hid hg1.o
  have HGT := Go.Lib.hid (hg1.o.cut n)
  have HNL : Hid ((l1.take n).length = n) := Go.Lib.hid (by rw [List.length_take]; have := HL1.out; omega)
  have hnl : n < l1.length := by rw [HL1.out]; omega
  have hix := (hg1.o.once.at_iff (atA l1 n).num n).2 ⟨hnl, rfl⟩
  have hrx := hg1.o.rng _ (List.getElem_mem hnl)
  rw [← atA_get hnl, HE1.out] at hrx
  have hmp : findH (l1.take n) = delF11 (findH l1) (atA l1 n).num := funext fun z => by rw [find_take hg1.o.once HL1.out z]; rfl
  rw [HE1.out] at hix hmp
  have HIX := Go.Lib.hid hix
  have HMP := Go.Lib.hid hmp
  have KX := Go.Lib.hid (wfI (z := a.num) (by omega) (by omega))
  have hs1 := HM1.out.size
  have y3 : Below w1.heap.size w1 (w1.alloc (.cells #[.int .i64 a.num, .int .i64 a.at_] 104)) := (Below.refl _ _).alloc (Nat.le_refl _) _
  have hbx := Bxo.made w1 104 (alL a)
  have hgl := hg1.box.lt
  have hml := hg1.map.lt
  have HG3 := Go.Lib.hid (hg1.box.keep y3 hgl)
  have HR3 := Go.Lib.hid (own_keepA (w' := w1.alloc (.cells #[.int .i64 a.num, .int .i64 a.at_] 104)) hg1.row (fun b e => y3.block b (own_ltI hg1.row b e)))
  have HP3 := Go.Lib.hid (hg1.map.keep (y3.block mb hml))
  have HZ1 := Go.Lib.hid (show Bxo w1 w.heap.size 104 [.int .i64 0, .int .i64 0] from (HM1.out.block w.heap.size (by omega) HFW.out).trans HZ0.out)
  have HZ3 := Go.Lib.hid (HZ1.out.keep y3 (by omega))
  have HM3' := Go.Lib.hid ((moves_below (F := F) y0).trans (HM1.out.trans (moves_below y3)))
  have hsz3 : (w1.alloc (.cells #[.int .i64 a.num, .int .i64 a.at_] 104)).heap.size = w1.heap.size + 1 := by simp
  have hmbW : mb ≠ w.heap.size := fun e => HFW.out (by rw [← e]; exact (hg1.o.blocks mb).2 (.inr (.inl rfl)))
  clear hg1 hnl hix hrx hmp tA
  generalize w1.alloc (.cells #[.int .i64 a.num, .int .i64 a.at_] 104) = w3 at *
  have HX3 := Go.Lib.hid (show Bxo w3 w1.heap.size 104 (alL a) from hbx)
  have HM3 : Hid (∀ Y, Gro mb w3 Y → Y.cell? ⟨g, 1, none⟩ = some (.map (some mb))) := Go.Lib.hid (fun Y y => (HG3.out.gro y HGO.out.g1).cell 1 rfl)
  have HN3 : Hid (∀ Y, Gro mb w3 Y → Y.cell? ⟨w1.heap.size, 0, none⟩ = some (.int .i64 a.num)) := Go.Lib.hid (fun Y y => (HX3.out.gro y (by omega)).cell 0 rfl)
  clear hbx
  try simp only [Act.put, List.setIfInBounds_toArray, List.set_cons_zero, List.set_cons_succ]
  refine wp_region_held_drew (S := fun Y => Gro mb w3 Y) (by kernel_rfl) ?_ (fun hHeld => ?_)
  · exact (gro_below (below_drew (Below.refl _ _)))
  refine wpAnyH_take (i := 0) (oi := ⟨some 11, _, _, _, _, _⟩) (v := ?_) rfl (by kernel_rfl) (by kernel_rfl) (by kernel_rfl) (fun _ _ _ h => h) (Or.inl ⟨by rfl, ?_⟩) (by assumption) ?_
  rotate_left
  · intro w hSw; (try dsimp only at hSw); go_simp; (try with_reducible rfl)
  try simp only [Act.put, List.setIfInBounds_toArray, List.set_cons_zero, List.set_cons_succ]
  refine wpAnyH_take (i := 1) (oi := ⟨some 12, _, _, _, _, _⟩) (v := ?_) rfl (by kernel_rfl) (by kernel_rfl) (by kernel_rfl) (fun _ _ _ h => h) (Or.inl ⟨by rfl, ?_⟩) (by assumption) ?_
  rotate_left
  · intro w hSw; (try dsimp only at hSw); go_simp; (try with_reducible rfl)
  try simp only [Act.put, List.setIfInBounds_toArray, List.set_cons_zero, List.set_cons_succ]
  refine wpAnyH_take (i := 2) (oi := ⟨some 13, _, _, _, _, _⟩) (v := ?_) rfl (by kernel_rfl) (by kernel_rfl) (by kernel_rfl) (fun _ _ _ h => h) (Or.inl ⟨by rfl, ?_⟩) (by assumption) ?_
  rotate_left
  · intro w hSw; (try dsimp only at hSw); go_simp; (try with_reducible rfl)
  try simp only [Act.put, List.setIfInBounds_toArray, List.set_cons_zero, List.set_cons_succ]
  refine wpAnyH_take (i := 3) (oi := ⟨some 14, _, _, _, _, _⟩) (v := ?_) rfl (by kernel_rfl) (by kernel_rfl) (by kernel_rfl) (fun _ _ _ h => h) (Or.inl ⟨by rfl, ?_⟩) (by assumption) ?_
  rotate_left
  · intro w hSw; have zc := HM3.out _ hSw; (try dsimp only at hSw); go_simp; (try with_reducible rfl)
  try simp only [Act.put, List.setIfInBounds_toArray, List.set_cons_zero, List.set_cons_succ]
  refine wpAnyH_take (i := 4) (oi := ⟨some 15, _, _, _, _, _⟩) (v := ?_) rfl (by kernel_rfl) (by kernel_rfl) (by kernel_rfl) (fun _ _ _ h => h) (Or.inl ⟨by rfl, ?_⟩) (by assumption) ?_
  rotate_left
  · intro w hSw; (try dsimp only at hSw); go_simp; (try with_reducible rfl)
  try simp only [Act.put, List.setIfInBounds_toArray, List.set_cons_zero, List.set_cons_succ]
  refine wpAnyH_take (i := 5) (oi := ⟨some 16, _, _, _, _, _⟩) (v := ?_) rfl (by kernel_rfl) (by kernel_rfl) (by kernel_rfl) (fun _ _ _ h => h) (Or.inl ⟨by rfl, ?_⟩) (by assumption) ?_
  rotate_left
  · intro w hSw; have zc := HN3.out _ hSw; (try dsimp only at hSw); go_simp; (try with_reducible rfl)
  try simp only [Act.put, List.setIfInBounds_toArray, List.set_cons_zero, List.set_cons_succ]
  refine wpAnyH_ready (rs := [6]) (by kernel_rfl) (by simp) (AllReadyH.cons (o := ⟨none, _, _, _, _, _⟩) rfl (fun Kc hKc => ?_) AllReadyH.nil)
  rw [if_pos (by rfl)]
  refine step_delP (w := w3.drew) (HP3.out.keep rfl) _ _ rfl a.num KX.out (by rw [HIX.out]; rfl) rfl rfl ?_; intro w4 hp4 ho4; have HP4 := Go.Lib.hid hp4; have HO4 := Go.Lib.hid ho4; clear hp4 ho4
  refine hKc.out _ _ (hHeld.trans HO4.out.gro) (fun hHeld => ?_)
  clear hKc Kc
  try simp only [Act.put, List.setIfInBounds_toArray, List.set_cons_zero, List.set_cons_succ]
  refine wpAnyH_done (by kernel_rfl) ?_ _
  have yq := hHeld
  clear hHeld
  have HX4 := Go.Lib.hid (HX3.out.gro yq (by omega))
  have HZ4 := Go.Lib.hid (HZ3.out.gro yq (by omega))
  have HG4 := Go.Lib.hid (HG3.out.gro yq HGO.out.g1)
  have HR4 := Go.Lib.hid (own_keepA (w' := w4) HR3.out (fun b e => yq.block b (own_ltI HR3.out b e) (fun e' => HGO.out.g3 (by rw [e, e']))))
  have HG := Go.Lib.hid (⟨A, c, mb, GR.mk' HNL.out HG4.out HR4.out (by rw [HMP.out]; exact HP4.out) HGT.out⟩ : ∃ A c mb, GR w4 g (l1.take n) now F A c mb)
  have hs4 := yq.size
  go_wp2_with (first
    | (refine wpList_load_box rfl 104 _ rfl w1.heap.size rfl (alL a) _ HX4.out Try.underlying104 rfl info_alg ?_)
    | (refine wpList_store_any rfl 104 _ _ rfl w.heap.size 0 104 _ (alL a) _ rfl rfl rfl HZ4.out info_alg (by show 0 + 2 ≤ 2; omega) (by simp [Value.oneCell']) ?_; intro w5 hb5 ho5; have HB5 := Go.Lib.hid hb5; have HO5 := Go.Lib.hid ho5; clear hb5 ho5))
  refine bodyPost_ret (v := .agg #[.int .i64 a.num, .int .i64 a.at_]) (results_cell_row rfl _ _ w.heap.size 104 _ _ _ rfl HB5.out Try.underlying104 rfl info_alg) rfl ⟨rfl, l1.take n, ?_, ?_, ?_, ?_⟩
  · exact (heapG g now).keep HG.out (fun b hb => HO5.out.block b (fun e => HFW.out (by rw [← e]; exact hb))) (Nat.le_of_eq HO5.out.size.symm)
  · have m4 := HM3'.out.trans (gro_moves yq ((HGO.out.blocks mb).2 (.inr (.inl rfl))))
    exact ⟨HO5.out.os.trans m4.os, HO5.out.tape.trans m4.tape, HO5.out.output.trans m4.output, by rw [HO5.out.size]; exact m4.size, fun k hk hn => (HO5.out.block k (by omega)).trans (m4.block k hk hn)⟩
  · rw [← HE1.out]
    exact (take_last HL1.out).trans HP1.out
  · rw [HNL.out]
    exact HH1.out.cut (Nat.le_refl _)
theorem spl_time {l : List Al} {i : Nat} (hi : i < l.length) (t : Int) : spl (l.flatMap Al.L) (i * 2 + 1) [.int .i64 t] = (l.set i ⟨(atA l i).num, t⟩).flatMap Al.L := by
  rw [← spl_flat Al.L 2 Al.len l i ⟨(atA l i).num, t⟩ hi]
  have h1 := flat_get Al.L 2 Al.len l i 0 hi (by omega)
  rw [Nat.add_zero, ← atA_get hi] at h1
  have h2 : (l.flatMap Al.L).set (i * 2) (.int .i64 (atA l i).num) = l.flatMap Al.L := by
    apply List.ext_getElem?
    intro k
    rw [List.getElem?_set]
    split
    · rename_i e
      subst e
      rw [h1]
      have := (List.getElem?_eq_some_iff.1 (show (l.flatMap Al.L)[i * 2]? = some (.int .i64 (atA l i).num) from h1)).1
      rw [if_pos this]
      rfl
    · rfl
  show (l.flatMap Al.L).set (i * 2 + 1) (.int .i64 t) = (((l.flatMap Al.L).set (i * 2) (.int .i64 (atA l i).num)).set (i * 2 + 1) (.int .i64 t))
  rw [h2]
theorem info_map1 : (Try.prog.info? 92).map (·.size) = some 1 := by kernel_rfl
set_option maxRecDepth 100000 in
set_option maxHeartbeats 8000000 in
theorem gmove {w : World} {g : Nat} {now : Int} {l : List Al} {F : Nat → Prop} {A : Option Addr} {c mb : Nat} (h : GR w g l now F A c mb) (i : Nat) (hi : i < l.length) (hh : HeapA l l.length) (n t : Int) (hin : (atA l i).num = n) (hn : 0 ≤ n ∧ n ≤ 2147483647) :
    Calls Try.prog 51 #[.pointer (some ⟨g, 0, none⟩), .int .i64 i, .int .i64 t] w fun e w' => e = .returned (.tuple #[]) ∧ ∃ l', (heapG g now).Rep w' l' F ∧ Moves w w' F ∧ l'.Perm (l.set i ⟨n, t⟩) ∧ HeapA l' l'.length := by
  obtain ⟨r, rfl, hr, _⟩ := h.cell hi
  have hgm := h.g1
  have hrg : r ≠ g := some_ne h.g2
  have hrm : r ≠ mb := some_ne h.g3
  have hFr : F r := (h.blocks r).2 (.inr (.inr rfl))
  obtain ⟨cur, k1, k2, k3, _, k5, _⟩ := own_open h.row
  have HCU := Go.Lib.hid k1
  have hcl : i * 2 + 1 + 1 ≤ cur.length := by rw [k2]; omega
  have hw := find_when h.once hi t
  have hst := spl_time hi t
  rw [hin] at hw hst
  have HW := Go.Lib.hid hw
  have HST := Go.Lib.hid hst
  have HGO : Hid (GRo g (l.set i ⟨n, t⟩) F (some ⟨r, 0, none⟩) mb) := Go.Lib.hid ⟨h.blocks, h.g1, h.g2, h.g3, hw.1, fun a ha => (List.mem_or_eq_of_mem_set ha).elim (h.rng a) (fun e => by rw [e]; exact hn), by rw [List.length_set]; exact h.size⟩
  obtain ⟨m, hm'⟩ : ∃ m, l.length = m := ⟨_, rfl⟩
  have HRW : Hid (w.ownsRow 0 104 2 (.slice (some ⟨r, 0, none⟩) m c) m (l.flatMap Al.L)) := Go.Lib.hid (by rw [← hm']; exact h.row)
  have HBX : Hid (Bxo w g 96 [.slice (some ⟨r, 0, none⟩) m c, .map (some mb), .int .i64 now]) := Go.Lib.hid (by rw [← hm']; exact h.box)
  have HPM : Hid (PmAt w mb (findH l) m) := Go.Lib.hid (by rw [← hm']; exact h.map)
  have HNL : Hid ((l.set i ⟨n, t⟩).length = m) := Go.Lib.hid (by rw [List.length_set]; exact hm')
  have HHL : Hid (HoleA (l.set i ⟨n, t⟩) m i) := Go.Lib.hid (hh.hole hi ⟨n, t⟩ (by omega))
  have c0 := HBX.out.cell 0 rfl
  rw [hm'] at hi
  have i1 : (0 : Int) ≤ (i : Int) := by omega
  have i2 : (i : Int) < (m : Int) := by omega
  clear h hh hw hst hin hm' k1 k2 k3 k5
  go_enter Try.func51, Try.ntmps51
  go_upto_region 1 with (refine wpList_store_any rfl 3 _ _ rfl r (i * 2 + 1) 104 cur [.int .i64 t] _ rfl rfl rfl HCU.out info_i1 hcl (by simp [Value.oneCell']) ?_; intro w2 hb2 ho2; have HB2 := Go.Lib.hid hb2; have HO2 := Go.Lib.hid ho2; clear hb2 ho2)
  have hro := own_spl HRW.out HCU.out (by show i * 2 + 1 + 1 ≤ _; omega) HB2.out
  rw [HST.out] at hro
  have HR2 : Hid ((heapG g now).Rep w2 (l.set i ⟨n, t⟩) F) := Go.Lib.hid ⟨_, c, mb, GR.mk' HNL.out (HBX.out.only HO2.out (Ne.symm hrg)) hro (by rw [show findH (l.set i ⟨n, t⟩) = findH l from funext HW.out.2]; exact HPM.out.keep (HO2.out.block mb (Ne.symm hrm))) HGO.out⟩
  clear hro
  go_wp2_with (go_at_call 60; refine (hfix (heapG g now) (l.set i ⟨n, t⟩) F i m w2 HR2.out HNL.out hi HHL.out).mono ?_; rintro e w3 ⟨rfl, l3, r3, m3, o3, p3⟩; have HR3 := Go.Lib.hid r3; have HM3 := Go.Lib.hid m3; have HO3 := Go.Lib.hid o3; have HP3 := Go.Lib.hid p3; clear r3 m3 o3 p3; dsimp only)
  go_end0
  exact ⟨rfl, l3, HR3.out, (gro_moves HO2.out.gro hFr).trans HM3.out, HO3.out.perm, by rw [HO3.out.len, HNL.out]; exact HP3.out⟩
/-- what put hands back. -/
def GPut (w : World) (g : Nat) (now : Int) (l : List Al) (F : Nat → Prop) (e : Ending) (w' : World) : Prop := e = .returned (.tuple #[]) ∧ ∃ F' l', (heapG g now).Rep w' l' F' ∧ Newer w F F' ∧ Moves w w' F ∧ l'.Perm l ∧ HeapA l' l'.length
set_option maxRecDepth 100000 in
set_option maxHeartbeats 8000000 in
theorem gput {w : World} {g : Nat} {now : Int} {l : List Al} {F : Nat → Prop} {A : Option Addr} {c mb : Nat} (h : GR w g l now F A c mb) (hh : HeapA l l.length) (n t : Int) (hn : 0 ≤ n ∧ n ≤ 2147483647) (hl : l.length < 256) (hne : ∀ b ∈ l, b.num ≠ n) :
    Calls Try.prog 52 #[.pointer (some ⟨g, 0, none⟩), .agg #[.int .i64 n, .int .i64 t]] w (GPut w g now (l ++ [⟨n, t⟩]) F) := by
  have HH := Go.Lib.hid hh
  have HNE := Go.Lib.hid hne
  have y0 : Below w.heap.size w (w.alloc (.cells #[.int .i64 n, .int .i64 t] 104)) := (Below.refl _ _).alloc (Nat.le_refl _) _
  have hbx := Bxo.made w 104 (alL ⟨n, t⟩)
  have HK0 : Hid ((heapG g now).Rep (w.alloc (.cells #[.int .i64 n, .int .i64 t] 104)) l F) := Go.Lib.hid ⟨A, c, mb, h.call y0⟩
  have c1 := (h.call y0).box.cell 1 rfl
  clear hh hne h
  have q55 : ∀ (w : World) (r : Option Nat), (binOp .eql 92 (.map r) (.map none)).run Try.prog w = .ok (.bool r.isNone) w := fun w r => run_eql_map_nil w _ _ _ r Try.underlying92
  go_enter Try.func52, Try.ntmps52
  go_upto_region 1 with fail
  generalize w.alloc (.cells #[.int .i64 n, .int .i64 t] 104) = w0 at *
  have HX0 := Go.Lib.hid (show Bxo w0 w.heap.size 104 [.int .i64 n, .int .i64 t] from hbx)
  clear hbx
  go_wp2_with (first
    | (refine wpList_load_box rfl 104 _ rfl w.heap.size rfl [.int .i64 n, .int .i64 t] _ HX0.out Try.underlying104 rfl info_alg ?_)
    | (go_at_call 61; refine (hpush (heapG g now) l F ⟨n, t⟩ w0 HK0.out hn hl HNE.out HH.out).mono ?_; rintro e w1 ⟨rfl, F1, l1, r1, n1, m1, p1, h1⟩; have HR1 := Go.Lib.hid r1; have HN1 := Go.Lib.hid n1; have HM1 := Go.Lib.hid m1; have HP1 := Go.Lib.hid p1; have HH1 := Go.Lib.hid h1; clear r1 n1 m1 p1 h1; dsimp only))
  go_end0
  exact ⟨rfl, F1, l1, HR1.out, fun b hb => (HN1.out b hb).imp id (fun q => Nat.le_trans y0.size q), (moves_below y0).trans HM1.out, HP1.out, HH1.out⟩
set_option maxRecDepth 100000 in
set_option maxHeartbeats 8000000 in
/-- .. into a wheel that has no map yet. -/
theorem gput0 {w : World} {g : Nat} {now : Int} {F : Nat → Prop} (h : Bxo w g 96 [.slice none 0 0, .map none, .int .i64 now]) (hF : F g) (n t : Int) (hn : 0 ≤ n ∧ n ≤ 2147483647) :
    Calls Try.prog 52 #[.pointer (some ⟨g, 0, none⟩), .agg #[.int .i64 n, .int .i64 t]] w (GPut w g now [⟨n, t⟩] F) := by
  have y0 : Below w.heap.size w (w.alloc (.cells #[.int .i64 n, .int .i64 t] 104)) := (Below.refl _ _).alloc (Nat.le_refl _) _
  have hbx := Bxo.made w 104 (alL ⟨n, t⟩)
  have hmm := @run_makeMap Try.prog
  have HB0 := Go.Lib.hid (h.keep y0 h.lt)
  have c1 := HB0.out.cell 1 rfl
  have hgl := h.lt
  have hs0 : (w.alloc (.cells #[.int .i64 n, .int .i64 t] 104)).heap.size = w.heap.size + 1 := by simp
  clear h
  have q55 : ∀ (w : World) (r : Option Nat), (binOp .eql 92 (.map r) (.map none)).run Try.prog w = .ok (.bool r.isNone) w := fun w r => run_eql_map_nil w _ _ _ r Try.underlying92
  go_enter Try.func52, Try.ntmps52
  go_upto_region 1 with fail
  generalize w.alloc (.cells #[.int .i64 n, .int .i64 t] 104) = w0 at *
  have HX0 := Go.Lib.hid (show Bxo w0 w.heap.size 104 [.int .i64 n, .int .i64 t] from hbx)
  have hs0' : w.heap.size < w0.heap.size := by omega
  clear hbx hs0
  have y1 : Below w0.heap.size w0 (w0.alloc (.map #[] 0)) := (Below.refl _ _).alloc (Nat.le_refl _) _
  have HB1 := Go.Lib.hid (HB0.out.alloc (.map #[] 0))
  have HX1 := Go.Lib.hid (HX0.out.alloc (.map #[] 0))
  have HP1 := Go.Lib.hid (PmAt.made w0)
  have hs1 : (w0.alloc (.map #[] 0)).heap.size = w0.heap.size + 1 := by simp
  go_upto_region 3 with (refine wpList_store_any rfl 92 _ _ rfl g 1 96 _ [.map (some w0.heap.size)] _ rfl rfl rfl HB1.out info_map1 (by show 1 + 1 ≤ 3; omega) (by simp [Value.oneCell']) ?_; intro w2 hb2 ho2; have HG2 : Hid (Bxo w2 g 96 [.slice none 0 0, .map (some w0.heap.size), .int .i64 now]) := Go.Lib.hid hb2; have HO2 := Go.Lib.hid ho2; clear hb2 ho2)
  have hs2 := HO2.out.size
  have HX2 := Go.Lib.hid (HX1.out.only HO2.out (by omega))
  have HP2 := Go.Lib.hid (HP1.out.keep (HO2.out.block w0.heap.size (by omega)))
  have HR2 : Hid ((heapG g now).Rep w2 [] (fun b => b = g ∨ b = w0.heap.size ∨ blk none = some b)) := Go.Lib.hid ⟨none, 0, w0.heap.size, HG2.out, own_none _ _ _ _, HP2.out, fun b => Iff.rfl, by omega, (fun e => by cases e), (fun e => by cases e), List.Pairwise.nil, (fun a h => by cases h), by decide⟩
  clear c1 hmm
  go_wp2_with (first
    | (refine wpList_load_box rfl 104 _ rfl w.heap.size rfl [.int .i64 n, .int .i64 t] _ HX2.out Try.underlying104 rfl info_alg ?_)
    | (go_at_call 61; refine (hpush (heapG g now) [] _ ⟨n, t⟩ w2 HR2.out hn (by decide) (fun b hb => by cases hb) (fun k h0 hk => by simp at hk)).mono ?_; rintro e w3 ⟨rfl, F1, l1, r1, n1, m1, p1, h1⟩; have HR3 := Go.Lib.hid r1; have HN3 := Go.Lib.hid n1; have HM3 := Go.Lib.hid m1; have HP3 := Go.Lib.hid p1; have HH3 := Go.Lib.hid h1; clear r1 n1 m1 p1 h1; dsimp only))
  go_end0
  have hge : ∀ b, (b = g ∨ b = w0.heap.size ∨ blk none = some b) → F b ∨ w.heap.size ≤ b := by
    rintro b (rfl | rfl | e)
    · exact .inl hF
    · exact .inr (by omega)
    · cases e
  refine ⟨rfl, F1, l1, HR3.out, fun b hb => (HN3.out b hb).elim (hge b) (fun q => .inr (by omega)), ?_, HP3.out, HH3.out⟩
  refine ⟨HM3.out.os.trans (HO2.out.os.trans (y1.os.trans y0.os)), HM3.out.tape.trans (HO2.out.tape.trans (y1.tape.trans y0.tape)), HM3.out.output.trans (HO2.out.output.trans (y1.output.trans y0.output)), by have := HM3.out.size; omega, fun k hk hnF => ?_⟩
  refine (HM3.out.block k (by omega) (fun q => (hge k q).elim hnF (by omega))).trans ?_
  refine (HO2.out.block k (fun e => hnF (by rw [e]; exact hF))).trans ?_
  exact (y1.block k (by omega)).trans (y0.block k hk)
end Go.Proofs.Ytofpalmghdapkaa

/- A wheel as a heap in a struct, its places in a map: New, Set, Drop, When, Waits, Now. -/
namespace Go.Proofs.Ytofpalmghdapkaa
open Go.ChangeShapes Go.WideShapes Go.ChangeAt Go.RowKit Go.Maps
set_option linter.unusedVariables false
set_option linter.unusedSimpArgs false

theorem nilLook {n : Int} (hn : (Lit.int .i64 n).wf = true) (w : World) : (Instr.lookup 92 (.map none) (.int .i64 n) true).run Try.prog w = .ok (.tuple #[.int .i64 0, .bool false]) w := by
  simpa using look_nil (w := w) true keyedI Try.underlying92 (zeroI w) (keyI hn)
/-- a wheel that has had no alarm yet: it has no map. -/
structure WF (w : World) (g : Nat) (x : Wh) (F : Nat → Prop) : Prop where
  box : Bxo w g 96 [.slice none 0 0, .map none, .int .i64 x.now]
  empty : x.list = []
  blocks : ∀ b, F b ↔ b = g
  right : RightW x
/-- a wheel in memory. -/
structure WR (w : World) (g : Nat) (l : List Al) (x : Wh) (F : Nat → Prop) (A : Option Addr) (c mb : Nat) : Prop where
  mem : GR w g l x.now F A c mb
  perm : l.Perm x.list
  heap : HeapA l l.length
  right : RightW x
def WRep (w : World) (ad : Addr) (x : Wh) (F : Nat → Prop) : Prop := ∃ g, ad = ⟨g, 0, none⟩ ∧ (WF w g x F ∨ ∃ l A c mb, WR w g l x F A c mb)
section
variable {w : World} {g : Nat} {l : List Al} {x : Wh} {F : Nat → Prop} {A : Option Addr} {c mb : Nat}
/-- what of a wheel in memory has turned, told anew. -/
theorem WRep.of {l' : List Al} {x' : Wh} {w' : World} {F' : Nat → Prop} (h : (heapG g x'.now).Rep w' l' F') (p : l'.Perm x'.list) (hp : HeapA l' l'.length) (r : RightW x') : WRep w' ⟨g, 0, none⟩ x' F' := by
  obtain ⟨A', c', mb', h⟩ := h
  exact ⟨g, rfl, .inr ⟨l', A', c', mb', h, p, hp, r⟩⟩
set_option maxRecDepth 100000 in
set_option maxHeartbeats 4000000 in
theorem gwhen (h : WR w g l x F A c mb) (n : Int) (hn : I64 n) (q : Int × Bool) (hq : whenH x n = q) :
    Calls Try.prog 48 #[.pointer (some ⟨g, 0, none⟩), .int .i64 n] w fun e w' => e = .returned (.tuple #[.int .i64 q.1, .bool q.2]) ∧ Below w.heap.size w w' := by
  have hm := h.mem
  have HP := Go.Lib.hid hm.map
  have c0 := hm.box.cell 0 rfl
  have c1 := hm.box.cell 1 rfl
  have KX := Go.Lib.hid (wfI hn.1 hn.2)
  cases hf : findH l n with
  | none =>
    have HQ : Hid (q = (0, false)) := Go.Lib.hid (by rw [← hq]; exact when_none h.perm hf)
    have hv : placeV (findH l) n = .tuple #[.int .i64 0, .bool false] := by unfold placeV; rw [hf]; rfl
    clear hm h hq hf
    go_enter Try.func48, Try.ntmps48
    go_wp2_with (at_lookup; refine wpList_place HP.out rfl _ _ rfl n KX.out rfl rfl ?_; rw [hv])
    go_ret2
    exact ⟨by rw [HQ.out]; rfl, Below.refl _ _⟩
  | some i =>
    obtain ⟨hi, _⟩ := find_at hm.once hf
    have hw := when_some h.perm h.right.once hf
    obtain ⟨r, rfl, _, hci⟩ := hm.cell hi
    have hcx := hci w rfl
    obtain ⟨a, ha⟩ : ∃ a, atA l i = a := ⟨_, rfl⟩
    rw [ha] at hcx hw
    have HQ : Hid (q = (a.at_, true)) := Go.Lib.hid (by rw [← hq]; exact hw)
    have hv : placeV (findH l) n = .tuple #[.int .i64 (i : Int), .bool true] := by unfold placeV; rw [hf]; rfl
    obtain ⟨m, hm'⟩ : ∃ m, l.length = m := ⟨_, rfl⟩
    rw [hm'] at c0 hi
    have d1 := hcx 1 _ rfl
    rw [Addr.add_mid] at d1
    have i1 : (0 : Int) ≤ (i : Int) := by omega
    have i2 : (i : Int) < (m : Int) := by omega
    clear hm h hq hf hci hcx hw ha hm'
    go_enter Try.func48, Try.ntmps48
    go_wp2_with (at_lookup; refine wpList_place HP.out rfl _ _ rfl n KX.out rfl rfl ?_; rw [hv])
    go_ret2
    exact ⟨by rw [HQ.out]; rfl, Below.refl _ _⟩
set_option maxHeartbeats 400000 in
theorem gwaits (h : WR w g l x F A c mb) (n : Int) (hn : (x.list.length : Int) = n) :
    Calls Try.prog 40 #[.pointer (some ⟨g, 0, none⟩)] w fun e w' => e = .returned (.int .i64 n) ∧ Below w.heap.size w w' := by
  have c0 := h.mem.box.cell 0 rfl
  rw [h.perm.length_eq] at c0
  subst hn
  clear h
  go_enter Try.func40, Try.ntmps40
  go_wp2
  go_ret
  exact ⟨rfl, Below.refl _ _⟩
set_option maxHeartbeats 400000 in
theorem gnow (h : WR w g l x F A c mb) (n : Int) (hn : x.now = n) :
    Calls Try.prog 30 #[.pointer (some ⟨g, 0, none⟩)] w fun e w' => e = .returned (.int .i64 n) ∧ Below w.heap.size w w' := by
  have c2 := h.mem.box.cell 2 rfl
  rw [hn] at c2
  clear h
  go_enter Try.func30, Try.ntmps30
  go_wp2
  go_ret
  exact ⟨rfl, Below.refl _ _⟩
set_option maxRecDepth 100000 in
set_option maxHeartbeats 4000000 in
theorem gdrop (h : WR w g l x F A c mb) (n : Int) (hn : I64 n) (q : Wh × Int) (hq : dropH x n = q) :
    Calls Try.prog 36 #[.pointer (some ⟨g, 0, none⟩), .int .i64 n] w fun e w' => ∃ F', e = .returned (.int .i64 q.2) ∧ WRep w' ⟨g, 0, none⟩ q.1 F' ∧ Newer w F F' ∧ Moves w w' F := by
  have hm := h.mem
  have HP := Go.Lib.hid hm.map
  have c1 := hm.box.cell 1 rfl
  have KX := Go.Lib.hid (wfI hn.1 hn.2)
  have HH := Go.Lib.hid h
  cases hf : findH l n with
  | none =>
    have HQ : Hid (q = (x, 9)) := Go.Lib.hid (by rw [← hq]; exact drop_none h.perm hf)
    have hv : placeV (findH l) n = .tuple #[.int .i64 0, .bool false] := by unfold placeV; rw [hf]; rfl
    clear hm h hq hf
    go_enter Try.func36, Try.ntmps36
    go_wp2_with (at_lookup; refine wpList_place HP.out rfl _ _ rfl n KX.out rfl rfl ?_; rw [hv])
    go_ret
    exact ⟨F, by rw [HQ.out]; rfl, by rw [HQ.out]; exact ⟨g, rfl, .inr ⟨l, A, c, mb, HH.out⟩⟩, fun b f => .inl f, Moves.refl _ _⟩
  | some i =>
    obtain ⟨hi, _⟩ := find_at hm.once hf
    have HR : Hid ((heapG g x.now).Rep w l F) := Go.Lib.hid ⟨A, c, mb, hm⟩
    have hv : placeV (findH l) n = .tuple #[.int .i64 (i : Int), .bool true] := by unfold placeV; rw [hf]; rfl
    have HF := Go.Lib.hid hf
    have HQ := Go.Lib.hid hq
    obtain ⟨a, ha⟩ : ∃ a, atA l i = a := ⟨_, rfl⟩
    have HA := Go.Lib.hid ha
    clear hm h hq hf ha
    go_enter Try.func36, Try.ntmps36
    go_wp2_with (first
      | (at_lookup; refine wpList_place HP.out rfl _ _ rfl n KX.out rfl rfl ?_; rw [hv])
      | (go_at_call 49; refine (gtake HR.out i hi HH.out.heap a HA.out).mono ?_; rintro e w1 ⟨rfl, l1, r1, m1, p1, h1⟩; have HR1 := Go.Lib.hid r1; have HM1 := Go.Lib.hid m1; have HP1 := Go.Lib.hid p1; have HH1 := Go.Lib.hid h1; clear r1 m1 p1 h1; dsimp only))
    go_ret
    obtain ⟨X, hX, hp⟩ := drop_some HH.out.perm HH.out.right.once HF.out (by rw [HA.out]; exact HP1.out)
    have hr := HH.out.right.drop n
    rw [HQ.out] at hX hr
    rw [hX] at hr ⊢
    exact ⟨F, rfl, WRep.of (x' := ⟨X, x.now⟩) HR1.out hp HH1.out hr, fun b f => .inl f, HM1.out⟩
set_option maxRecDepth 100000 in
set_option maxHeartbeats 4000000 in
theorem gnew (w : World) : Calls Try.prog 28 #[] w fun e w' => ∃ ad F, e = .returned (.pointer (some ad)) ∧ WRep w' ad wh0 F ∧ (∀ b, F b → w.heap.size ≤ b) ∧ Below w.heap.size w w' := by
  have y1 : Below w.heap.size w (w.alloc (.cells #[.slice none 0 0, .map none, .int .i64 0] 96)) := (Below.refl _ _).alloc (Nat.le_refl _) _
  have hbx := Bxo.made w 96 [.slice none 0 0, .map none, .int .i64 0]
  go_enter Try.func28, Try.ntmps28
  go_wp2
  go_ret
  exact ⟨⟨w.heap.size, 0, none⟩, fun b => b = w.heap.size, rfl, ⟨w.heap.size, rfl, .inl ⟨hbx, rfl, fun b => Iff.rfl, right_wh0⟩⟩, fun b e => by omega, y1⟩
/-- what Set hands back. -/
def GSet (w : World) (g : Nat) (F : Nat → Prop) (q : Wh × Int) (e : Ending) (w' : World) : Prop := ∃ F', e = .returned (.int .i64 q.2) ∧ WRep w' ⟨g, 0, none⟩ q.1 F' ∧ Newer w F F' ∧ Moves w w' F
theorem GSet.same {q : Wh × Int} {f : Int} (hq : q = (x, f)) (h : WR w g l x F A c mb) : GSet w g F q (.returned (.int .i64 f)) w := ⟨F, by rw [hq], by rw [hq]; exact ⟨g, rfl, .inr ⟨l, A, c, mb, h⟩⟩, fun b f => .inl f, Moves.refl _ _⟩
theorem GSet.moved {q : Wh × Int} {X : Wh} {F' : Nat → Prop} {w' : World} (hq : q = (X, 0)) (h : WRep w' ⟨g, 0, none⟩ X F') (hn : Newer w F F') (hm : Moves w w' F) : GSet w g F q (.returned (.int .i64 0)) w' := ⟨F', by rw [hq], by rw [hq]; exact h, hn, hm⟩
set_option maxRecDepth 100000 in
set_option maxHeartbeats 8000000 in
theorem gset (h : WR w g l x F A c mb) (n t : Int) (q : Wh × Int) (hq : setH x n t = q) :
    Calls Try.prog 39 #[.pointer (some ⟨g, 0, none⟩), .int .i64 n, .int .i64 t] w (GSet w g F q) := by
  have hm := h.mem
  have HP := Go.Lib.hid hm.map
  have c0 := hm.box.cell 0 rfl
  have c1 := hm.box.cell 1 rfl
  have c2 := hm.box.cell 2 rfl
  have HH := Go.Lib.hid h
  have n0' := h.right.now0
  by_cases h0 : n < 0
  · have HQ : Hid (q = (x, 1)) := Go.Lib.hid (by rw [← hq]; unfold setH; rw [if_pos (by omega)])
    clear hm h hq
    go_enter Try.func39, Try.ntmps39
    go_wp2
    go_ret
    exact GSet.same HQ.out HH.out
  by_cases h1 : 2147483647 < n
  · have HQ : Hid (q = (x, 1)) := Go.Lib.hid (by rw [← hq]; unfold setH; rw [if_pos (by omega)])
    clear hm h hq
    go_enter Try.func39, Try.ntmps39
    go_wp2
    go_ret
    exact GSet.same HQ.out HH.out
  by_cases h2 : t < 0
  · have HQ : Hid (q = (x, 1)) := Go.Lib.hid (by rw [← hq]; unfold setH; rw [if_pos (by omega)])
    clear hm h hq
    go_enter Try.func39, Try.ntmps39
    go_wp2
    go_ret
    exact GSet.same HQ.out HH.out
  by_cases h3 : 1099511627776 < t
  · have HQ : Hid (q = (x, 1)) := Go.Lib.hid (by rw [← hq]; unfold setH; rw [if_pos (by omega)])
    clear hm h hq
    go_enter Try.func39, Try.ntmps39
    go_wp2
    go_ret
    exact GSet.same HQ.out HH.out
  by_cases h5 : t ≤ x.now
  · have HQ : Hid (q = (x, 14)) := Go.Lib.hid (by rw [← hq]; unfold setH; rw [if_neg (by omega), if_pos h5])
    clear hm h hq
    go_enter Try.func39, Try.ntmps39
    go_wp2
    go_ret
    exact GSet.same HQ.out HH.out
  have HB : Hid (0 ≤ n ∧ n ≤ 2147483647 ∧ x.now < t ∧ t ≤ 1099511627776) := Go.Lib.hid (by omega)
  have KX := Go.Lib.hid (wfI (z := n) (by omega) (by omega))
  have HQ := Go.Lib.hid hq
  cases hf : findH l n with
  | none =>
    have hv : placeV (findH l) n = .tuple #[.int .i64 0, .bool false] := by unfold placeV; rw [hf]; rfl
    have HF := Go.Lib.hid hf
    by_cases h6 : 256 ≤ l.length
    · have HQ : Hid (q = (x, 8)) := Go.Lib.hid (by rw [← hq]; exact set_full h.perm HB.out n0' hf h6)
      have hsz : l.length = 256 := by have := hm.size; omega
      rw [hsz] at c0
      clear hm h hq hf h6 hsz
      go_enter Try.func39, Try.ntmps39
      go_wp2_with (at_lookup; refine wpList_place HP.out rfl _ _ rfl n KX.out rfl rfl ?_; rw [hv])
      go_ret
      exact GSet.same HQ.out HH.out
    · have HM := Go.Lib.hid hm
      have HL : Hid (l.length < 256) := Go.Lib.hid (by omega)
      obtain ⟨m, hm'⟩ : ∃ m, l.length = m := ⟨_, rfl⟩
      rw [hm'] at c0 h6
      have te : ((m : Int) == 256) = false := by simp; omega
      clear hm h hq hf hm'
      go_enter Try.func39, Try.ntmps39
      go_wp2_with (first
        | (at_lookup; refine wpList_place HP.out rfl _ _ rfl n KX.out rfl rfl ?_; rw [hv])
        | (go_at_call 52; refine (gput HM.out HH.out.heap n t ⟨HB.out.1, HB.out.2.1⟩ HL.out (find_none HF.out)).mono ?_; rintro e w1 ⟨rfl, F1, l1, r1, n1, m1, p1, h1⟩; have HR1 := Go.Lib.hid r1; have HN1 := Go.Lib.hid n1; have HM1 := Go.Lib.hid m1; have HP1 := Go.Lib.hid p1; have HH1 := Go.Lib.hid h1; clear r1 n1 m1 p1 h1; dsimp only))
      go_ret
      obtain ⟨X, hX, hp⟩ := set_new HH.out.perm HB.out n0' HF.out HL.out HP1.out
      have hr := HH.out.right.set n t
      rw [HQ.out] at hX hr
      rw [hX] at hr
      exact GSet.moved hX (WRep.of (x' := ⟨X, x.now⟩) HR1.out hp HH1.out hr) HN1.out HM1.out
  | some i =>
    obtain ⟨hi, hin⟩ := find_at hm.once hf
    have hv : placeV (findH l) n = .tuple #[.int .i64 (i : Int), .bool true] := by unfold placeV; rw [hf]; rfl
    have HF := Go.Lib.hid hf
    have HM := Go.Lib.hid hm
    have HIN := Go.Lib.hid hin
    clear hm h hq hf hin
    go_enter Try.func39, Try.ntmps39
    go_wp2_with (first
      | (at_lookup; refine wpList_place HP.out rfl _ _ rfl n KX.out rfl rfl ?_; rw [hv])
      | (go_at_call 51; refine (gmove HM.out i hi HH.out.heap n t HIN.out ⟨HB.out.1, HB.out.2.1⟩).mono ?_; rintro e w3 ⟨rfl, l3, r3, m3, p3, h3⟩; have HR3 := Go.Lib.hid r3; have HM3 := Go.Lib.hid m3; have HP3 := Go.Lib.hid p3; have HH3 := Go.Lib.hid h3; clear r3 m3 p3 h3; dsimp only))
    go_ret
    obtain ⟨X, hX, hp⟩ := set_again HH.out.perm HH.out.right.once HB.out n0' HF.out HP3.out
    have hr' := HH.out.right.set n t
    rw [HQ.out] at hX hr'
    rw [hX] at hr'
    exact GSet.moved hX (WRep.of (x' := ⟨X, x.now⟩) HR3.out hp HH3.out hr') (fun b f => .inl f) HM3.out
end
/-! a wheel that has had no alarm yet. -/
section
variable {w : World} {g : Nat} {x : Wh} {F : Nat → Prop}
theorem WF.keep {w' : World} (h : WF w g x F) (hb : w'.heap[g]? = w.heap[g]?) : WF w' g x F := ⟨hb.trans h.box, h.empty, h.blocks, h.right⟩
set_option maxHeartbeats 4000000 in
theorem fwhen (h : WF w g x F) (n : Int) (hn : I64 n) (q : Int × Bool) (hq : whenH x n = q) :
    Calls Try.prog 48 #[.pointer (some ⟨g, 0, none⟩), .int .i64 n] w fun e w' => e = .returned (.tuple #[.int .i64 q.1, .bool q.2]) ∧ Below w.heap.size w w' := by
  have c1 := h.box.cell 1 rfl
  have hl := fun w => nilLook (n := n) (wfI hn.1 hn.2) w
  have HQ : Hid (q = (0, false)) := Go.Lib.hid (by rw [← hq]; unfold whenH; rw [h.empty]; rfl)
  clear h hq
  go_enter Try.func48, Try.ntmps48
  go_wp2
  go_ret2
  exact ⟨by rw [HQ.out]; rfl, Below.refl _ _⟩
set_option maxHeartbeats 400000 in
theorem fwaits (h : WF w g x F) (n : Int) (hn : (x.list.length : Int) = n) :
    Calls Try.prog 40 #[.pointer (some ⟨g, 0, none⟩)] w fun e w' => e = .returned (.int .i64 n) ∧ Below w.heap.size w w' := by
  have c0 := h.box.cell 0 rfl
  have e0 : n = 0 := by rw [← hn, h.empty]; rfl
  clear hn
  subst e0
  clear h
  go_enter Try.func40, Try.ntmps40
  go_wp2
  go_ret
  exact ⟨rfl, Below.refl _ _⟩
set_option maxHeartbeats 400000 in
theorem fnow (h : WF w g x F) (n : Int) (hn : x.now = n) :
    Calls Try.prog 30 #[.pointer (some ⟨g, 0, none⟩)] w fun e w' => e = .returned (.int .i64 n) ∧ Below w.heap.size w w' := by
  have c2 := h.box.cell 2 rfl
  rw [hn] at c2
  clear h
  go_enter Try.func30, Try.ntmps30
  go_wp2
  go_ret
  exact ⟨rfl, Below.refl _ _⟩
set_option maxHeartbeats 4000000 in
theorem fdrop (h : WF w g x F) (n : Int) (hn : I64 n) (q : Wh × Int) (hq : dropH x n = q) :
    Calls Try.prog 36 #[.pointer (some ⟨g, 0, none⟩), .int .i64 n] w fun e w' => ∃ F', e = .returned (.int .i64 q.2) ∧ WRep w' ⟨g, 0, none⟩ q.1 F' ∧ Newer w F F' ∧ Moves w w' F := by
  have c1 := h.box.cell 1 rfl
  have hl := fun w => nilLook (n := n) (wfI hn.1 hn.2) w
  have HH := Go.Lib.hid h
  have HQ : Hid (q = (x, 9)) := Go.Lib.hid (by rw [← hq]; unfold dropH; rw [h.empty]; rfl)
  clear h hq
  go_enter Try.func36, Try.ntmps36
  go_wp2
  go_ret
  exact ⟨F, by rw [HQ.out]; rfl, by rw [HQ.out]; exact ⟨g, rfl, .inl HH.out⟩, fun b f => .inl f, Moves.refl _ _⟩
theorem GSet.sameF {q : Wh × Int} {f : Int} (hq : q = (x, f)) (h : WF w g x F) : GSet w g F q (.returned (.int .i64 f)) w := ⟨F, by rw [hq], by rw [hq]; exact ⟨g, rfl, .inl h⟩, fun b f => .inl f, Moves.refl _ _⟩
set_option maxRecDepth 100000 in
set_option maxHeartbeats 8000000 in
theorem fset (h : WF w g x F) (n t : Int) (q : Wh × Int) (hq : setH x n t = q) :
    Calls Try.prog 39 #[.pointer (some ⟨g, 0, none⟩), .int .i64 n, .int .i64 t] w (GSet w g F q) := by
  have c0 := h.box.cell 0 rfl
  have c1 := h.box.cell 1 rfl
  have c2 := h.box.cell 2 rfl
  have HH := Go.Lib.hid h
  have n0' := h.right.now0
  by_cases h0 : n < 0
  · have HQ : Hid (q = (x, 1)) := Go.Lib.hid (by rw [← hq]; unfold setH; rw [if_pos (by omega)])
    clear h hq
    go_enter Try.func39, Try.ntmps39
    go_wp2
    go_ret
    exact GSet.sameF HQ.out HH.out
  by_cases h1 : 2147483647 < n
  · have HQ : Hid (q = (x, 1)) := Go.Lib.hid (by rw [← hq]; unfold setH; rw [if_pos (by omega)])
    clear h hq
    go_enter Try.func39, Try.ntmps39
    go_wp2
    go_ret
    exact GSet.sameF HQ.out HH.out
  by_cases h2 : t < 0
  · have HQ : Hid (q = (x, 1)) := Go.Lib.hid (by rw [← hq]; unfold setH; rw [if_pos (by omega)])
    clear h hq
    go_enter Try.func39, Try.ntmps39
    go_wp2
    go_ret
    exact GSet.sameF HQ.out HH.out
  by_cases h3 : 1099511627776 < t
  · have HQ : Hid (q = (x, 1)) := Go.Lib.hid (by rw [← hq]; unfold setH; rw [if_pos (by omega)])
    clear h hq
    go_enter Try.func39, Try.ntmps39
    go_wp2
    go_ret
    exact GSet.sameF HQ.out HH.out
  by_cases h5 : t ≤ x.now
  · have HQ : Hid (q = (x, 14)) := Go.Lib.hid (by rw [← hq]; unfold setH; rw [if_neg (by omega), if_pos h5])
    clear h hq
    go_enter Try.func39, Try.ntmps39
    go_wp2
    go_ret
    exact GSet.sameF HQ.out HH.out
  have HB : Hid (0 ≤ n ∧ n ≤ 2147483647 ∧ x.now < t ∧ t ≤ 1099511627776) := Go.Lib.hid (by omega)
  have hl := fun w => nilLook (n := n) (wfI (z := n) (by omega) (by omega)) w
  have HQ := Go.Lib.hid hq
  have HR := Go.Lib.hid (h.right.set n t)
  have HX := Go.Lib.hid h.box
  have HFG : Hid (F g) := Go.Lib.hid ((h.blocks g).2 rfl)
  have HP : Hid (([] : List Al).Perm x.list) := Go.Lib.hid (by rw [h.empty])
  clear h hq
  go_enter Try.func39, Try.ntmps39
  go_wp2_with (go_at_call 52; refine (gput0 HX.out HFG.out n t ⟨HB.out.1, HB.out.2.1⟩).mono ?_; rintro e w1 ⟨rfl, F1, l1, r1, n1, m1, p1, h1⟩; have HR1 := Go.Lib.hid r1; have HN1 := Go.Lib.hid n1; have HM1 := Go.Lib.hid m1; have HP1 := Go.Lib.hid p1; have HH1 := Go.Lib.hid h1; clear r1 n1 m1 p1 h1; dsimp only)
  go_ret
  obtain ⟨X, hX, hp⟩ := set_new (l' := l1) HP.out HB.out n0' rfl (by decide) HP1.out
  have hr := HR.out
  rw [HQ.out] at hX hr
  rw [hX] at hr
  exact GSet.moved hX (WRep.of (x' := ⟨X, x.now⟩) HR1.out hp HH1.out hr) HN1.out HM1.out
end
end Go.Proofs.Ytofpalmghdapkaa

/- Acts of a wheel in memory; a wheel beside the document's own. -/
namespace Go.Proofs.Ytofpalmghdapkaa
open Go.ChangeShapes Go.WideShapes Go.ChangeAt Go.RowKit
set_option linter.unusedVariables false
set_option linter.unusedSimpArgs false

structure Ac where
  kind : Int
  num : Int
  at_ : Int
def Ac.L (a : Ac) : List Value := [.int .i64 a.kind, .int .i64 a.num, .int .i64 a.at_]
abbrev acL (a : Ac) : List Value := [.int .i64 a.kind, .int .i64 a.num, .int .i64 a.at_]
theorem Ac.len (a : Ac) : a.L.length = 3 := rfl
/-- acts in a row. -/
structure AcsAt (w : World) (l : List Ac) (A : Option Addr) (c : Nat) : Prop where
  len : l.length ≤ c
  cap : c ≤ 9223372036854775807
  nil : A = none → c = 0
  rd : RdC w A (l.flatMap Ac.L)
  rng : ∀ a ∈ l, I64 a.num
theorem AcsAt.cell {w : World} {l : List Ac} {A : Option Addr} {c : Nat} (h : AcsAt w l A c) {i : Nat} (hi : i < l.length) : ∃ ad, A = some ad ∧ ∀ Y, Below w.heap.size w Y → ∀ j v, (acL l[i])[j]? = some v → Y.cell? ((ad.add (i * 3)).add j) = some v := by
  rcases h.rd with h0 | ⟨ad, e, hc⟩
  · have := flat_len Ac.L 3 Ac.len l
    rw [h0] at this
    simp at this
    omega
  · refine ⟨ad, e, fun Y y j v hv => ?_⟩
    have hj : j < 3 := by have := (List.getElem?_eq_some_iff.1 hv).1; simpa using this
    have h1 : (l.flatMap Ac.L)[i * 3 + j]? = some v := by
      rw [flat_get Ac.L 3 Ac.len l i j hi hj]; exact hv
    have h2 := hc _ _ h1
    rw [add_add]
    exact (y.cell (World.block_lt_of_cell? w _ h2)).trans h2
/-- what a nil wheel is answered. -/
structure WheelN : Prop where
  set : ∀ (n t : Int) (w : World), Calls Try.prog 39 #[.pointer none, .int .i64 n, .int .i64 t] w fun e w' => e = .returned (.int .i64 1) ∧ Below w.heap.size w w'
  drop : ∀ (n : Int) (w : World), Calls Try.prog 36 #[.pointer none, .int .i64 n] w fun e w' => e = .returned (.int .i64 1) ∧ Below w.heap.size w w'
  tick : ∀ (now : Int) (w : World), Calls Try.prog 38 #[.pointer none, .int .i64 now] w fun e w' => ∃ A c, e = .returned (.tuple #[.slice A 0 c, .int .i64 1]) ∧ Below w.heap.size w w'
  when_ : ∀ (n : Int) (w : World), Calls Try.prog 48 #[.pointer none, .int .i64 n] w fun e w' => e = .returned (.tuple #[.int .i64 0, .bool false]) ∧ Below w.heap.size w w'
  waits : ∀ (w : World), Calls Try.prog 40 #[.pointer none] w fun e w' => e = .returned (.int .i64 0) ∧ Below w.heap.size w w'
  now_ : ∀ (w : World), Calls Try.prog 30 #[.pointer none] w fun e w' => e = .returned (.int .i64 0) ∧ Below w.heap.size w w'
section
variable {K : WheelC} {w0 wr wx : World} {g : Nat} {ad : Addr} {xp xd xp' xd' : Wh} {F F' : Nat → Prop} {A A' : Option Addr} {c c' : Nat}
end
section
variable {F F' : Nat → Prop} {a : Ac} {ga : Nat} {wr wx : World}
end
end Go.Proofs.Ytofpalmghdapkaa
