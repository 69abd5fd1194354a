/- A wheel as a heap in a struct, its places in a map: a heap; take, move, put. -/
import Derived.Test.YtebmomanpkmloaaWheelG4
import Derived.Test.YtebmomanpkmloaaWheelPos2
import Derived.WalkSpells
namespace Go.Proofs.Ytebmomanpkmloaa
open Go.ChangeShapes Go.WideShapes Go.ChangeAt Go.RowKit
set_option linter.unusedVariables false
set_option linter.unusedSimpArgs false

def heapG (g : Nat) (now : Int) : HeapC2 ⟨g, 0, none⟩ where
  Rep := fun w l F => ∃ A c mb, GR w g l now F A c mb
  size := fun ⟨_, _, _, h⟩ => h.size
  lt := fun ⟨_, _, _, h⟩ b hb => h.lt b hb
  keep := fun ⟨A, c, mb, h⟩ hk _ => ⟨A, c, mb, h.keep hk⟩
  less := fun ⟨_, _, _, h⟩ i j q hi hj hq => gless h i j q hi hj hq
  swap := fun ⟨A, c, mb, h⟩ i j hi hj => (gswap h i j hi hj).mono fun e w' ⟨h1, h2, h3⟩ => ⟨h1, ⟨A, c, mb, h2⟩, h3⟩
  any_ := anyA
  len_ := fun ⟨_, _, _, h⟩ n hn => glen h n hn
  push := fun ⟨_, _, _, h⟩ a ha hl hne => gpush h a ha hl hne
  Cut := fun w l n F => ∃ A c mb, GRp w g l n now F A c mb
  pop := fun ⟨A, c, mb, h⟩ n v hn hv => (gpop h n v hn hv).mono fun e w' ⟨h1, h2, h3⟩ => ⟨h1, ⟨A, c, mb, h2⟩, h3⟩
theorem GRo.cut {g : Nat} {l : List Al} {F : Nat → Prop} {A : Option Addr} {mb : Nat} (h : GRo g l F A mb) (n : Nat) : GRo g (l.take n) F A mb :=
  ⟨h.blocks, h.g1, h.g2, h.g3, List.Pairwise.sublist (List.take_sublist n l) h.once, fun a ha => h.rng a (List.mem_of_mem_take ha), by have := h.size; rw [List.length_take]; omega⟩
set_option maxRecDepth 100000 in
set_option maxHeartbeats 8000000 in
theorem gtake {w : World} {g : Nat} {now : Int} {l : List Al} {F : Nat → Prop} (h : (heapG g now).Rep w l F) (i : Nat) (hi : i < l.length) (hh : HeapA l l.length) (a : Al) (ha : atA l i = a) :
    Calls Try.prog 24 #[.pointer (some ⟨g, 0, none⟩), .int .i64 i] w fun e w' => e = .returned (.agg #[.int .i64 a.num, .int .i64 a.at_]) ∧ ∃ l', (heapG g now).Rep w' l' F ∧ Moves w w' F ∧ (a :: l').Perm l ∧ HeapA l' l'.length := by
  have HH := Go.Lib.hid hh
  have HA := Go.Lib.hid ha
  have y0 : Below w.heap.size w (w.alloc (.cells #[.int .i64 0, .int .i64 0] 67)) := (Below.refl _ _).alloc (Nat.le_refl _) _
  have hz0 := Bxo.made w 67 [.int .i64 0, .int .i64 0]
  have HK0 := Go.Lib.hid (HeapC.at h y0)
  have HFW : Hid (¬ F w.heap.size) := Go.Lib.hid (fun f => by have := (heapG g now).lt h _ f; omega)
  have tA := assertA a
  have HV : Hid ((heapG g now).any_ (atA l i) = .iface 67 (.agg #[.int .i64 a.num, .int .i64 a.at_])) := Go.Lib.hid (by rw [ha]; rfl)
  clear hh ha h
  go_enter Try.func24, Try.ntmps24
  go_upto_region 1 with fail
  have hs0 : (w.alloc (.cells #[.int .i64 0, .int .i64 0] 67)).heap.size = w.heap.size + 1 := by simp
  have HZ0 := Go.Lib.hid (show Bxo (w.alloc (.cells #[.int .i64 0, .int .i64 0] 67)) w.heap.size 67 [.int .i64 0, .int .i64 0] from hz0)
  clear hz0
  generalize w.alloc (.cells #[.int .i64 0, .int .i64 0] 67) = w0 at *
  go_upto_region 2 with (go_at_call 27; refine (hremove (heapG g now) l F i _ w0 HK0.out hi HH.out HV.out).mono ?_; rintro e w1 ⟨rfl, l1, n, k1, m1, hl1, p1, e1, h1⟩; have HK1 := Go.Lib.hid k1; have HM1 := Go.Lib.hid m1; have HL1 := Go.Lib.hid hl1; have HP1 := Go.Lib.hid p1; have HE1 := Go.Lib.hid (e1.trans HA.out); have HH1 := Go.Lib.hid h1; clear k1 m1 hl1 p1 e1 h1; dsimp only)
  obtain ⟨A, c, mb, hg1⟩ := HK1.out
  have HGO := Go.Lib.hid hg1.o
  have HGT := Go.Lib.hid (hg1.o.cut n)
  have HNL : Hid ((l1.take n).length = n) := Go.Lib.hid (by rw [List.length_take]; have := HL1.out; omega)
  have hnl : n < l1.length := by rw [HL1.out]; omega
  have hix := (hg1.o.once.at_iff (atA l1 n).num n).2 ⟨hnl, rfl⟩
  have hrx := hg1.o.rng _ (List.getElem_mem hnl)
  rw [← atA_get hnl, HE1.out] at hrx
  have hmp : findH (l1.take n) = delF11 (findH l1) (atA l1 n).num := funext fun z => by rw [find_take hg1.o.once HL1.out z]; rfl
  rw [HE1.out] at hix hmp
  have HIX := Go.Lib.hid hix
  have HMP := Go.Lib.hid hmp
  have KX := Go.Lib.hid (wfI (z := a.num) (by omega) (by omega))
  have hs1 := HM1.out.size
  have y3 : Below w1.heap.size w1 (w1.alloc (.cells #[.int .i64 a.num, .int .i64 a.at_] 67)) := (Below.refl _ _).alloc (Nat.le_refl _) _
  have hbx := Bxo.made w1 67 (alL a)
  have hgl := hg1.box.lt
  have hml := hg1.map.lt
  have HG3 := Go.Lib.hid (hg1.box.keep y3 hgl)
  have HR3 := Go.Lib.hid (own_keepA (w' := w1.alloc (.cells #[.int .i64 a.num, .int .i64 a.at_] 67)) hg1.row (fun b e => y3.block b (own_ltI hg1.row b e)))
  have HP3 := Go.Lib.hid (hg1.map.keep (y3.block mb hml))
  have HZ1 := Go.Lib.hid (show Bxo w1 w.heap.size 67 [.int .i64 0, .int .i64 0] from (HM1.out.block w.heap.size (by omega) HFW.out).trans HZ0.out)
  have HZ3 := Go.Lib.hid (HZ1.out.keep y3 (by omega))
  have HM3' := Go.Lib.hid ((moves_below (F := F) y0).trans (HM1.out.trans (moves_below y3)))
  have hsz3 : (w1.alloc (.cells #[.int .i64 a.num, .int .i64 a.at_] 67)).heap.size = w1.heap.size + 1 := by simp
  have hmbW : mb ≠ w.heap.size := fun e => HFW.out (by rw [← e]; exact (hg1.o.blocks mb).2 (.inr (.inl rfl)))
  clear hg1 hnl hix hrx hmp tA
  generalize w1.alloc (.cells #[.int .i64 a.num, .int .i64 a.at_] 67) = w3 at *
  have HX3 := Go.Lib.hid (show Bxo w3 w1.heap.size 67 (alL a) from hbx)
  have HM3 : Hid (∀ Y, Gro mb w3 Y → Y.cell? ⟨g, 1, none⟩ = some (.map (some mb))) := Go.Lib.hid (fun Y y => (HG3.out.gro y HGO.out.g1).cell 1 rfl)
  have HN3 : Hid (∀ Y, Gro mb w3 Y → Y.cell? ⟨w1.heap.size, 0, none⟩ = some (.int .i64 a.num)) := Go.Lib.hid (fun Y y => (HX3.out.gro y (by omega)).cell 0 rfl)
  clear hbx
  try simp only [Act.put, List.setIfInBounds_toArray, List.set_cons_zero, List.set_cons_succ]
  refine wp_region_held_drew (S := fun Y => Gro mb w3 Y) (by kernel_rfl) ?_ (fun hHeld => ?_)
  · exact (gro_below (below_drew (Below.refl _ _)))
  refine wpAnyH_take (i := 0) (oi := ⟨some 11, _, _, _, _, _⟩) (v := ?_) rfl (by kernel_rfl) (by kernel_rfl) (by kernel_rfl) (fun _ _ _ h => h) (Or.inl ⟨by rfl, ?_⟩) (by assumption) ?_
  rotate_left
  · intro w hSw; (try dsimp only at hSw); go_simp; (try with_reducible rfl)
  try simp only [Act.put, List.setIfInBounds_toArray, List.set_cons_zero, List.set_cons_succ]
  refine wpAnyH_take (i := 1) (oi := ⟨some 12, _, _, _, _, _⟩) (v := ?_) rfl (by kernel_rfl) (by kernel_rfl) (by kernel_rfl) (fun _ _ _ h => h) (Or.inl ⟨by rfl, ?_⟩) (by assumption) ?_
  rotate_left
  · intro w hSw; (try dsimp only at hSw); go_simp; (try with_reducible rfl)
  try simp only [Act.put, List.setIfInBounds_toArray, List.set_cons_zero, List.set_cons_succ]
  refine wpAnyH_take (i := 2) (oi := ⟨some 13, _, _, _, _, _⟩) (v := ?_) rfl (by kernel_rfl) (by kernel_rfl) (by kernel_rfl) (fun _ _ _ h => h) (Or.inl ⟨by rfl, ?_⟩) (by assumption) ?_
  rotate_left
  · intro w hSw; (try dsimp only at hSw); go_simp; (try with_reducible rfl)
  try simp only [Act.put, List.setIfInBounds_toArray, List.set_cons_zero, List.set_cons_succ]
  refine wpAnyH_take (i := 3) (oi := ⟨some 14, _, _, _, _, _⟩) (v := ?_) rfl (by kernel_rfl) (by kernel_rfl) (by kernel_rfl) (fun _ _ _ h => h) (Or.inl ⟨by rfl, ?_⟩) (by assumption) ?_
  rotate_left
  · intro w hSw; have zc := HM3.out _ hSw; (try dsimp only at hSw); go_simp; (try with_reducible rfl)
  try simp only [Act.put, List.setIfInBounds_toArray, List.set_cons_zero, List.set_cons_succ]
  refine wpAnyH_take (i := 4) (oi := ⟨some 15, _, _, _, _, _⟩) (v := ?_) rfl (by kernel_rfl) (by kernel_rfl) (by kernel_rfl) (fun _ _ _ h => h) (Or.inl ⟨by rfl, ?_⟩) (by assumption) ?_
  rotate_left
  · intro w hSw; (try dsimp only at hSw); go_simp; (try with_reducible rfl)
  try simp only [Act.put, List.setIfInBounds_toArray, List.set_cons_zero, List.set_cons_succ]
  refine wpAnyH_take (i := 5) (oi := ⟨some 16, _, _, _, _, _⟩) (v := ?_) rfl (by kernel_rfl) (by kernel_rfl) (by kernel_rfl) (fun _ _ _ h => h) (Or.inl ⟨by rfl, ?_⟩) (by assumption) ?_
  rotate_left
  · intro w hSw; have zc := HN3.out _ hSw; (try dsimp only at hSw); go_simp; (try with_reducible rfl)
  try simp only [Act.put, List.setIfInBounds_toArray, List.set_cons_zero, List.set_cons_succ]
  refine wpAnyH_ready (rs := [6]) (by kernel_rfl) (by simp) (AllReadyH.cons (o := ⟨none, _, _, _, _, _⟩) rfl (fun Kc hKc => ?_) AllReadyH.nil)
  rw [if_pos (by rfl)]
  refine step_delP (w := w3.drew) (HP3.out.keep rfl) _ _ rfl a.num KX.out (by rw [HIX.out]; rfl) rfl rfl ?_; intro w4 hp4 ho4; have HP4 := Go.Lib.hid hp4; have HO4 := Go.Lib.hid ho4; clear hp4 ho4
  refine hKc.out _ _ (hHeld.trans HO4.out.gro) (fun hHeld => ?_)
  clear hKc Kc
  try simp only [Act.put, List.setIfInBounds_toArray, List.set_cons_zero, List.set_cons_succ]
  refine wpAnyH_done (by kernel_rfl) ?_ _
  have yq := hHeld
  clear hHeld
  have HX4 := Go.Lib.hid (HX3.out.gro yq (by omega))
  have HZ4 := Go.Lib.hid (HZ3.out.gro yq (by omega))
  have HG4 := Go.Lib.hid (HG3.out.gro yq HGO.out.g1)
  have HR4 := Go.Lib.hid (own_keepA (w' := w4) HR3.out (fun b e => yq.block b (own_ltI HR3.out b e) (fun e' => HGO.out.g3 (by rw [e, e']))))
  have HG := Go.Lib.hid (⟨A, c, mb, GR.mk' HNL.out HG4.out HR4.out (by rw [HMP.out]; exact HP4.out) HGT.out⟩ : ∃ A c mb, GR w4 g (l1.take n) now F A c mb)
  have hs4 := yq.size
  go_wp2_with (first
    | (refine wpList_load_box rfl 67 _ rfl w1.heap.size rfl (alL a) _ HX4.out Try.underlying67 rfl info_alg ?_)
    | (refine wpList_store_any rfl 67 _ _ rfl w.heap.size 0 67 _ (alL a) _ rfl rfl rfl HZ4.out info_alg (by show 0 + 2 ≤ 2; omega) (by simp [Value.oneCell']) ?_; intro w5 hb5 ho5; have HB5 := Go.Lib.hid hb5; have HO5 := Go.Lib.hid ho5; clear hb5 ho5))
  refine bodyPost_ret (v := .agg #[.int .i64 a.num, .int .i64 a.at_]) (results_cell_row rfl _ _ w.heap.size 67 _ _ _ rfl HB5.out Try.underlying67 rfl info_alg) rfl ⟨rfl, l1.take n, ?_, ?_, ?_, ?_⟩
  · exact (heapG g now).keep HG.out (fun b hb => HO5.out.block b (fun e => HFW.out (by rw [← e]; exact hb))) (Nat.le_of_eq HO5.out.size.symm)
  · have m4 := HM3'.out.trans (gro_moves yq ((HGO.out.blocks mb).2 (.inr (.inl rfl))))
    exact ⟨HO5.out.os.trans m4.os, HO5.out.tape.trans m4.tape, HO5.out.output.trans m4.output, by rw [HO5.out.size]; exact m4.size, fun k hk hn => (HO5.out.block k (by omega)).trans (m4.block k hk hn)⟩
  · rw [← HE1.out]
    exact (take_last HL1.out).trans HP1.out
  · rw [HNL.out]
    exact HH1.out.cut (Nat.le_refl _)
theorem spl_time {l : List Al} {i : Nat} (hi : i < l.length) (t : Int) : spl (l.flatMap Al.L) (i * 2 + 1) [.int .i64 t] = (l.set i ⟨(atA l i).num, t⟩).flatMap Al.L := by
  rw [← spl_flat Al.L 2 Al.len l i ⟨(atA l i).num, t⟩ hi]
  have h1 := flat_get Al.L 2 Al.len l i 0 hi (by omega)
  rw [Nat.add_zero, ← atA_get hi] at h1
  have h2 : (l.flatMap Al.L).set (i * 2) (.int .i64 (atA l i).num) = l.flatMap Al.L := by
    apply List.ext_getElem?
    intro k
    rw [List.getElem?_set]
    split
    · rename_i e
      subst e
      rw [h1]
      have := (List.getElem?_eq_some_iff.1 (show (l.flatMap Al.L)[i * 2]? = some (.int .i64 (atA l i).num) from h1)).1
      rw [if_pos this]
      rfl
    · rfl
  show (l.flatMap Al.L).set (i * 2 + 1) (.int .i64 t) = (((l.flatMap Al.L).set (i * 2) (.int .i64 (atA l i).num)).set (i * 2 + 1) (.int .i64 t))
  rw [h2]
theorem info_map1 : (Try.prog.info? 55).map (·.size) = some 1 := by kernel_rfl
set_option maxRecDepth 100000 in
set_option maxHeartbeats 8000000 in
theorem gmove {w : World} {g : Nat} {now : Int} {l : List Al} {F : Nat → Prop} {A : Option Addr} {c mb : Nat} (h : GR w g l now F A c mb) (i : Nat) (hi : i < l.length) (hh : HeapA l l.length) (n t : Int) (hin : (atA l i).num = n) (hn : 0 ≤ n ∧ n ≤ 2147483647) :
    Calls Try.prog 22 #[.pointer (some ⟨g, 0, none⟩), .int .i64 i, .int .i64 t] w fun e w' => e = .returned (.tuple #[]) ∧ ∃ l', (heapG g now).Rep w' l' F ∧ Moves w w' F ∧ l'.Perm (l.set i ⟨n, t⟩) ∧ HeapA l' l'.length := by
  obtain ⟨r, rfl, hr, _⟩ := h.cell hi
  have hgm := h.g1
  have hrg : r ≠ g := some_ne h.g2
  have hrm : r ≠ mb := some_ne h.g3
  have hFr : F r := (h.blocks r).2 (.inr (.inr rfl))
  obtain ⟨cur, k1, k2, k3, _, k5, _⟩ := own_open h.row
  have HCU := Go.Lib.hid k1
  have hcl : i * 2 + 1 + 1 ≤ cur.length := by rw [k2]; omega
  have hw := find_when h.once hi t
  have hst := spl_time hi t
  rw [hin] at hw hst
  have HW := Go.Lib.hid hw
  have HST := Go.Lib.hid hst
  have HGO : Hid (GRo g (l.set i ⟨n, t⟩) F (some ⟨r, 0, none⟩) mb) := Go.Lib.hid ⟨h.blocks, h.g1, h.g2, h.g3, hw.1, fun a ha => (List.mem_or_eq_of_mem_set ha).elim (h.rng a) (fun e => by rw [e]; exact hn), by rw [List.length_set]; exact h.size⟩
  obtain ⟨m, hm'⟩ : ∃ m, l.length = m := ⟨_, rfl⟩
  have HRW : Hid (w.ownsRow 0 67 2 (.slice (some ⟨r, 0, none⟩) m c) m (l.flatMap Al.L)) := Go.Lib.hid (by rw [← hm']; exact h.row)
  have HBX : Hid (Bxo w g 59 [.slice (some ⟨r, 0, none⟩) m c, .map (some mb), .int .i64 now]) := Go.Lib.hid (by rw [← hm']; exact h.box)
  have HPM : Hid (PmAt w mb (findH l) m) := Go.Lib.hid (by rw [← hm']; exact h.map)
  have HNL : Hid ((l.set i ⟨n, t⟩).length = m) := Go.Lib.hid (by rw [List.length_set]; exact hm')
  have HHL : Hid (HoleA (l.set i ⟨n, t⟩) m i) := Go.Lib.hid (hh.hole hi ⟨n, t⟩ (by omega))
  have c0 := HBX.out.cell 0 rfl
  rw [hm'] at hi
  have i1 : (0 : Int) ≤ (i : Int) := by omega
  have i2 : (i : Int) < (m : Int) := by omega
  clear h hh hw hst hin hm' k1 k2 k3 k5
  go_enter Try.func22, Try.ntmps22
  go_upto_region 1 with (refine wpList_store_any rfl 3 _ _ rfl r (i * 2 + 1) 67 cur [.int .i64 t] _ rfl rfl rfl HCU.out info_i1 hcl (by simp [Value.oneCell']) ?_; intro w2 hb2 ho2; have HB2 := Go.Lib.hid hb2; have HO2 := Go.Lib.hid ho2; clear hb2 ho2)
  have hro := own_spl HRW.out HCU.out (by show i * 2 + 1 + 1 ≤ _; omega) HB2.out
  rw [HST.out] at hro
  have HR2 : Hid ((heapG g now).Rep w2 (l.set i ⟨n, t⟩) F) := Go.Lib.hid ⟨_, c, mb, GR.mk' HNL.out (HBX.out.only HO2.out (Ne.symm hrg)) hro (by rw [show findH (l.set i ⟨n, t⟩) = findH l from funext HW.out.2]; exact HPM.out.keep (HO2.out.block mb (Ne.symm hrm))) HGO.out⟩
  clear hro
  go_wp2_with (go_at_call 25; refine (hfix (heapG g now) (l.set i ⟨n, t⟩) F i m w2 HR2.out HNL.out hi HHL.out).mono ?_; rintro e w3 ⟨rfl, l3, r3, m3, o3, p3⟩; have HR3 := Go.Lib.hid r3; have HM3 := Go.Lib.hid m3; have HO3 := Go.Lib.hid o3; have HP3 := Go.Lib.hid p3; clear r3 m3 o3 p3; dsimp only)
  go_end0
  exact ⟨rfl, l3, HR3.out, (gro_moves HO2.out.gro hFr).trans HM3.out, HO3.out.perm, by rw [HO3.out.len, HNL.out]; exact HP3.out⟩
/-- what put hands back. -/
def GPut (w : World) (g : Nat) (now : Int) (l : List Al) (F : Nat → Prop) (e : Ending) (w' : World) : Prop := e = .returned (.tuple #[]) ∧ ∃ F' l', (heapG g now).Rep w' l' F' ∧ Newer w F F' ∧ Moves w w' F ∧ l'.Perm l ∧ HeapA l' l'.length
set_option maxRecDepth 100000 in
set_option maxHeartbeats 8000000 in
theorem gput {w : World} {g : Nat} {now : Int} {l : List Al} {F : Nat → Prop} {A : Option Addr} {c mb : Nat} (h : GR w g l now F A c mb) (hh : HeapA l l.length) (n t : Int) (hn : 0 ≤ n ∧ n ≤ 2147483647) (hl : l.length < 256) (hne : ∀ b ∈ l, b.num ≠ n) :
    Calls Try.prog 23 #[.pointer (some ⟨g, 0, none⟩), .agg #[.int .i64 n, .int .i64 t]] w (GPut w g now (l ++ [⟨n, t⟩]) F) := by
  have HH := Go.Lib.hid hh
  have HNE := Go.Lib.hid hne
  have y0 : Below w.heap.size w (w.alloc (.cells #[.int .i64 n, .int .i64 t] 67)) := (Below.refl _ _).alloc (Nat.le_refl _) _
  have hbx := Bxo.made w 67 (alL ⟨n, t⟩)
  have HK0 : Hid ((heapG g now).Rep (w.alloc (.cells #[.int .i64 n, .int .i64 t] 67)) l F) := Go.Lib.hid ⟨A, c, mb, h.call y0⟩
  have c1 := (h.call y0).box.cell 1 rfl
  clear hh hne h
  have q55 : ∀ (w : World) (r : Option Nat), (binOp .eql 55 (.map r) (.map none)).run Try.prog w = .ok (.bool r.isNone) w := fun w r => run_eql_map_nil w _ _ _ r Try.underlying55
  go_enter Try.func23, Try.ntmps23
  go_upto_region 1 with fail
  generalize w.alloc (.cells #[.int .i64 n, .int .i64 t] 67) = w0 at *
  have HX0 := Go.Lib.hid (show Bxo w0 w.heap.size 67 [.int .i64 n, .int .i64 t] from hbx)
  clear hbx
  go_wp2_with (first
    | (refine wpList_load_box rfl 67 _ rfl w.heap.size rfl [.int .i64 n, .int .i64 t] _ HX0.out Try.underlying67 rfl info_alg ?_)
    | (go_at_call 26; refine (hpush (heapG g now) l F ⟨n, t⟩ w0 HK0.out hn hl HNE.out HH.out).mono ?_; rintro e w1 ⟨rfl, F1, l1, r1, n1, m1, p1, h1⟩; have HR1 := Go.Lib.hid r1; have HN1 := Go.Lib.hid n1; have HM1 := Go.Lib.hid m1; have HP1 := Go.Lib.hid p1; have HH1 := Go.Lib.hid h1; clear r1 n1 m1 p1 h1; dsimp only))
  go_end0
  exact ⟨rfl, F1, l1, HR1.out, fun b hb => (HN1.out b hb).imp id (fun q => Nat.le_trans y0.size q), (moves_below y0).trans HM1.out, HP1.out, HH1.out⟩
set_option maxRecDepth 100000 in
set_option maxHeartbeats 8000000 in
/-- .. into a wheel that has no map yet. -/
theorem gput0 {w : World} {g : Nat} {now : Int} {F : Nat → Prop} (h : Bxo w g 59 [.slice none 0 0, .map none, .int .i64 now]) (hF : F g) (n t : Int) (hn : 0 ≤ n ∧ n ≤ 2147483647) :
    Calls Try.prog 23 #[.pointer (some ⟨g, 0, none⟩), .agg #[.int .i64 n, .int .i64 t]] w (GPut w g now [⟨n, t⟩] F) := by
  have y0 : Below w.heap.size w (w.alloc (.cells #[.int .i64 n, .int .i64 t] 67)) := (Below.refl _ _).alloc (Nat.le_refl _) _
  have hbx := Bxo.made w 67 (alL ⟨n, t⟩)
  have hmm := @run_makeMap Try.prog
  have HB0 := Go.Lib.hid (h.keep y0 h.lt)
  have c1 := HB0.out.cell 1 rfl
  have hgl := h.lt
  have hs0 : (w.alloc (.cells #[.int .i64 n, .int .i64 t] 67)).heap.size = w.heap.size + 1 := by simp
  clear h
  have q55 : ∀ (w : World) (r : Option Nat), (binOp .eql 55 (.map r) (.map none)).run Try.prog w = .ok (.bool r.isNone) w := fun w r => run_eql_map_nil w _ _ _ r Try.underlying55
  go_enter Try.func23, Try.ntmps23
  go_upto_region 1 with fail
  generalize w.alloc (.cells #[.int .i64 n, .int .i64 t] 67) = w0 at *
  have HX0 := Go.Lib.hid (show Bxo w0 w.heap.size 67 [.int .i64 n, .int .i64 t] from hbx)
  have hs0' : w.heap.size < w0.heap.size := by omega
  clear hbx hs0
  have y1 : Below w0.heap.size w0 (w0.alloc (.map #[] 0)) := (Below.refl _ _).alloc (Nat.le_refl _) _
  have HB1 := Go.Lib.hid (HB0.out.alloc (.map #[] 0))
  have HX1 := Go.Lib.hid (HX0.out.alloc (.map #[] 0))
  have HP1 := Go.Lib.hid (PmAt.made w0)
  have hs1 : (w0.alloc (.map #[] 0)).heap.size = w0.heap.size + 1 := by simp
  go_upto_region 3 with (refine wpList_store_any rfl 55 _ _ rfl g 1 59 _ [.map (some w0.heap.size)] _ rfl rfl rfl HB1.out info_map1 (by show 1 + 1 ≤ 3; omega) (by simp [Value.oneCell']) ?_; intro w2 hb2 ho2; have HG2 : Hid (Bxo w2 g 59 [.slice none 0 0, .map (some w0.heap.size), .int .i64 now]) := Go.Lib.hid hb2; have HO2 := Go.Lib.hid ho2; clear hb2 ho2)
  have hs2 := HO2.out.size
  have HX2 := Go.Lib.hid (HX1.out.only HO2.out (by omega))
  have HP2 := Go.Lib.hid (HP1.out.keep (HO2.out.block w0.heap.size (by omega)))
  have HR2 : Hid ((heapG g now).Rep w2 [] (fun b => b = g ∨ b = w0.heap.size ∨ blk none = some b)) := Go.Lib.hid ⟨none, 0, w0.heap.size, HG2.out, own_none _ _ _ _, HP2.out, fun b => Iff.rfl, by omega, (fun e => by cases e), (fun e => by cases e), List.Pairwise.nil, (fun a h => by cases h), by decide⟩
  clear c1 hmm
  go_wp2_with (first
    | (refine wpList_load_box rfl 67 _ rfl w.heap.size rfl [.int .i64 n, .int .i64 t] _ HX2.out Try.underlying67 rfl info_alg ?_)
    | (go_at_call 26; refine (hpush (heapG g now) [] _ ⟨n, t⟩ w2 HR2.out hn (by decide) (fun b hb => by cases hb) (fun k h0 hk => by simp at hk)).mono ?_; rintro e w3 ⟨rfl, F1, l1, r1, n1, m1, p1, h1⟩; have HR3 := Go.Lib.hid r1; have HN3 := Go.Lib.hid n1; have HM3 := Go.Lib.hid m1; have HP3 := Go.Lib.hid p1; have HH3 := Go.Lib.hid h1; clear r1 n1 m1 p1 h1; dsimp only))
  go_end0
  have hge : ∀ b, (b = g ∨ b = w0.heap.size ∨ blk none = some b) → F b ∨ w.heap.size ≤ b := by
    rintro b (rfl | rfl | e)
    · exact .inl hF
    · exact .inr (by omega)
    · cases e
  refine ⟨rfl, F1, l1, HR3.out, fun b hb => (HN3.out b hb).elim (hge b) (fun q => .inr (by omega)), ?_, HP3.out, HH3.out⟩
  refine ⟨HM3.out.os.trans (HO2.out.os.trans (y1.os.trans y0.os)), HM3.out.tape.trans (HO2.out.tape.trans (y1.tape.trans y0.tape)), HM3.out.output.trans (HO2.out.output.trans (y1.output.trans y0.output)), by have := HM3.out.size; omega, fun k hk hnF => ?_⟩
  refine (HM3.out.block k (by omega) (fun q => (hge k q).elim hnF (by omega))).trans ?_
  refine (HO2.out.block k (fun e => hnF (by rw [e]; exact hF))).trans ?_
  exact (y1.block k (by omega)).trans (y0.block k hk)
end Go.Proofs.Ytebmomanpkmloaa
