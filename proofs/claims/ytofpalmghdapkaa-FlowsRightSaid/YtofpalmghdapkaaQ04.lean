/- Lemmas, several texts in one. -/
import Derived.Test.YtofpalmghdapkaaQ03
import Derived.Deep.DeepCutAuto
import Derived.Deep.RegionHeld3
import Derived.Test.YtofpalmghdapkaaQ02
/- The document's own answers for package flows: New, with, Set. -/
namespace Go.Proofs.Ytofpalmghdapkaa
open Go.ChangeShapes Go.WideShapes Go.ChangeAt Go.RowKit
set_option linter.unusedVariables false
set_option linter.unusedSimpArgs false

abbrev sr0 : Sr := ⟨[], 0⟩
theorem info_bl : (Try.prog.info? 4).map (·.size) = some 1 := by kernel_rfl
theorem info_blz : (Try.prog.info? 4).map (fun i => (i.zero, i.size, i.bytes)) = some (some (.bool false), 1, 1) := by kernel_rfl
theorem info_blsl : (Try.prog.info? 28).map (·.size) = some 1 := by kernel_rfl
theorem info_flsl : (Try.prog.info? 29).map (·.size) = some 1 := by kernel_rfl
theorem fl_one1 (f : Fl) : ∀ u ∈ flL f, u.oneCell' = true := by simp [Value.oneCell']
theorem sd_one (x : Sr) (A : Option Addr) (c : Nat) (B : Option Addr) (d : Nat) : ∀ u ∈ sdL x A c B d, u.oneCell' = true := by simp [Value.oneCell']
theorem bl_one (l : List Bool) : ∀ u ∈ l.map (fun b => Value.bool b), u.oneCell' = true := fun u hu => by
  obtain ⟨b, _, rfl⟩ := List.mem_map.1 hu
  rfl
theorem used_setF (l : List (Option Fl)) (i : Nat) (o : Option Fl) : usedF (l.set i o) = (usedF l).set i o.isSome := by unfold usedF; rw [List.map_set]
theorem flows_set (l : List (Option Fl)) (i : Nat) (o : Option Fl) : flowsF (l.set i o) = (flowsF l).set i (o.getD fl0) := by unfold flowsF; rw [List.map_set]
theorem BlsAt.ofOwn {w : World} {l : List Bool} {A : Option Addr} {c : Nat} {n base : Nat} {e : TypeId} (hn : l.length = n) (ho : w.ownsRow base e 1 (.slice A n c) n (l.map (fun b => Value.bool b))) : BlsAt w l A c := by
  have hcc := own_cap ho
  unfold maxLen at hcc
  refine ⟨by omega, hcc.2, fun e => ?_, own_rd ho⟩
  rcases own_addr ho with ⟨_, _, hc⟩ | ⟨g, e', _⟩
  · exact hc
  · rw [e'] at e; cases e
/-- the rows of a store lie in new memory. -/
def FrR (w w' : World) (A : Option Addr) : Prop := ∀ ad, A = some ad → w.heap.size ≤ ad.block ∧ ad.block < w'.heap.size
/-- a store is answered: its rows are the given one's, or new. -/
structure SdNew (w w' : World) (A0 B0 : Option Addr) (x : Sr) (A : Option Addr) (c : Nat) (B : Option Addr) (d : Nat) : Prop where
  sd : SdAt w' x A c B d
  below : Below w.heap.size w w'
  fresh : (A = A0 ∧ B = B0) ∨ (FrR w w' A ∧ FrR w w' B)
/-- a store is answered, its rows in new memory. -/
structure SdFr (w w' : World) (x : Sr) (A : Option Addr) (c : Nat) (B : Option Addr) (d : Nat) : Prop where
  sd : SdAt w' x A c B d
  below : Below w.heap.size w w'
  fa : FrR w w' A
  fb : FrR w w' B
theorem SdAt.keepR {w w' : World} {x : Sr} {A B : Option Addr} {c d : Nat} (h : SdAt w x A c B d) (hk : ∀ ad, A = some ad ∨ B = some ad → w'.heap[ad.block]? = w.heap[ad.block]?) : SdAt w' x A c B d := by
  refine ⟨⟨h.used.len, h.used.cap, h.used.nil, ?_⟩, ⟨h.flows.len, h.flows.cap, h.flows.nil, ?_⟩⟩
  · rcases h.used.rd with e | ⟨ad, e, hc⟩
    · exact .inl e
    · refine .inr ⟨ad, e, fun j u hj => ?_⟩
      rw [World.cell?_of_block (w := w) (w' := w') (a := ad.add j) (by rw [block_add]; exact hk ad (.inl e))]
      exact hc j u hj
  · rcases h.flows.rd with e | ⟨ad, e, hc⟩
    · exact .inl e
    · refine .inr ⟨ad, e, fun j u hj => ?_⟩
      rw [World.cell?_of_block (w := w) (w' := w') (a := ad.add j) (by rw [block_add]; exact hk ad (.inr e))]
      exact hc j u hj
/-- .. in a call that was made later on; then older memory was written. -/
theorem SdFr.wide {w w1 w2 w3 : World} {x : Sr} {A0 B0 A B : Option Addr} {c d : Nat} (h : SdFr w1 w2 x A c B d) (y : Below w.heap.size w w1) (y3 : Below w.heap.size w w3) (hk : ∀ k, w1.heap.size ≤ k → k < w2.heap.size → w3.heap[k]? = w2.heap[k]?) (hs : w2.heap.size ≤ w3.heap.size) : SdNew w w3 A0 B0 x A c B d :=
  ⟨h.sd.keepR (fun ad e => e.elim (fun e => hk _ (h.fa ad e).1 (h.fa ad e).2) (fun e => hk _ (h.fb ad e).1 (h.fb ad e).2)), y3,
    .inr ⟨fun ad e => ⟨Nat.le_trans y.size (h.fa ad e).1, Nat.lt_of_lt_of_le (h.fa ad e).2 hs⟩, fun ad e => ⟨Nat.le_trans y.size (h.fb ad e).1, Nat.lt_of_lt_of_le (h.fb ad e).2 hs⟩⟩⟩
set_option maxRecDepth 100000 in
set_option maxHeartbeats 4000000 in
theorem rwith12 (x : Sr) (A : Option Addr) (c : Nat) (B : Option Addr) (d : Nat) (i : Nat) (o : Option Fl) (w : World) (h : SdAt w x A c B d) (hi : i < x.slots.length) (hx : x.slots.length ≤ 256) (b : Bool) (hb : o.isSome = b) (f : Fl) (hf : o.getD fl0 = f) :
    Calls Try.prog 42 #[sdV x A c B d, .int .i64 i, .bool b, flV f] w fun e w' => ∃ A' c' B' d', e = .returned (sdV ⟨x.slots.set i o, x.now⟩ A' c' B' d') ∧ SdFr w w' ⟨x.slots.set i o, x.now⟩ A' c' B' d' := by
  have y0 : Below w.heap.size w (((w.alloc (oSd x A c B d)).alloc (oFl f)).alloc (oSd sr0 none 0 none 0)) := below_alloc (below_alloc (below_alloc (Below.refl _ _) (Nat.le_refl _) _) (by simp) _) (by simp; omega) _
  have h1 := ((Bxo.made w 31 (sdL x A c B d)).alloc (oFl f)).alloc (oSd sr0 none 0 none 0)
  have h2 : Bxo (((w.alloc (oSd x A c B d)).alloc (oFl f)).alloc (oSd sr0 none 0 none 0)) (w.heap.size + 1) 40 (flL f) := by
    have := (Bxo.made (w.alloc (oSd x A c B d)) 40 (flL f)).alloc (oSd sr0 none 0 none 0)
    simpa using this
  have h3 : Bxo (((w.alloc (oSd x A c B d)).alloc (oFl f)).alloc (oSd sr0 none 0 none 0)) (w.heap.size + 2) 31 (sdL sr0 none 0 none 0) := by
    have := Bxo.made ((w.alloc (oSd x A c B d)).alloc (oFl f)) 31 (sdL sr0 none 0 none 0)
    simpa using this
  have hws : (((w.alloc (oSd x A c B d)).alloc (oFl f)).alloc (oSd sr0 none 0 none 0)).heap.size = w.heap.size + 3 := by simp
  have HC0 := Go.Lib.hid h
  have HC := Go.Lib.hid (h.at y0)
  obtain ⟨n, hn⟩ : ∃ n, x.slots.length = n := ⟨_, rfl⟩
  have HN := Go.Lib.hid hn
  have hul : ((usedF x.slots).map (fun b => Value.bool b)).length = n * 1 := by rw [List.length_map, used_len, hn]; omega
  have hfl : ((flowsF x.slots).flatMap Fl.L).length = n * 12 := by rw [flat_len Fl.L 12 Fl.len, flows_len, hn]
  have HSU : Hid (spl ((usedF x.slots).map (fun b => Value.bool b)) i [.bool b] = (usedF (x.slots.set i o)).map (fun b => Value.bool b)) := Go.Lib.hid (by rw [used_setF, List.map_set, hb]; rfl)
  have HSF : Hid (spl ((flowsF x.slots).flatMap Fl.L) (i * 12) (flL f) = (flowsF (x.slots.set i o)).flatMap Fl.L) := Go.Lib.hid (by rw [flows_set, hf]; exact spl_flat Fl.L 12 Fl.len _ i f (by rw [flows_len]; exact hi))
  have HLU : Hid ((usedF (x.slots.set i o)).length = n) := Go.Lib.hid (by rw [used_len, List.length_set, hn])
  have HLF : Hid ((flowsF (x.slots.set i o)).length = n) := Go.Lib.hid (by rw [flows_len, List.length_set, hn])
  have HNS : Hid ((x.slots.set i o).length = n) := Go.Lib.hid (by rw [List.length_set, hn])
  have hun := h.used.nil
  have hfn := h.flows.nil
  rw [hn] at hi hx
  have hle : x.slots.length = n := hn
  have hul2 : n ≤ c := by have := h.ulen; omega
  have hfl2 : n ≤ d := by have := h.flen; omega
  obtain ⟨i0_, hi_, hz0, hz1, hz2⟩ := info_parts info_flz
  obtain ⟨j0_, hj_, hy0, hy1, hy2⟩ := info_parts info_blz
  clear h hb hf hn hle
  go_enter Try.func42, Try.ntmps42
  go_upto_region 1 with fail
  generalize (((w.alloc (oSd x A c B d)).alloc (oFl f)).alloc (oSd sr0 none 0 none 0)) = W at *
  have HX : Hid (Bxo W w.heap.size 31 [.slice A n c, .slice B n d, .int .i64 x.now]) := Go.Lib.hid (by have := h1; rw [← HN.out]; exact this)
  have HFB := Go.Lib.hid h2
  have HZ : Hid (Bxo W (w.heap.size + 1 + 1) 31 (sdL sr0 none 0 none 0)) := Go.Lib.hid h3
  have HW3 : w.heap.size + 3 ≤ W.heap.size := by omega
  clear h1 h2 h3 hws
  have c0 := HX.out.cell 0 rfl
  have hlt := HX.out.lt
  have hne : w.heap.size ≠ W.heap.size := by omega
  go_upto_region 2 with (first
    | (at_builtin; refine wpList_copy_rdK rfl _ _ 28 rfl 4 j0_ _ 1 1 Try.underlying28 hj_ hy0 hy1 hy2 rfl (by omega) rfl A n c ((usedF x.slots).map (fun b => Value.bool b)) rfl hul (fun e => ⟨hun e, by have := hun e; omega⟩) HC.out.used.rd (bl_one _) (by unfold maxLen; omega) (by omega) ?_; intro v1 w1 ho1 y1; obtain ⟨A1, c1, rfl⟩ := own_slice ho1; have HO1 := Go.Lib.hid ho1; have HX1 := Go.Lib.hid (HX.out.keep y1 HX.out.lt); have HF1 := Go.Lib.hid (HFB.out.keep y1 HFB.out.lt); have HZ1 := Go.Lib.hid (HZ.out.keep y1 HZ.out.lt); have hs1 := y1.size; clear ho1; dsimp only)
    | (refine wpList_store_any rfl 28 _ _ rfl w.heap.size 0 31 _ [.slice A1 n c1] _ rfl rfl rfl HX1.out info_blsl (by show 0 + 1 ≤ 3; omega) (by simp [Value.oneCell']) ?_; intro w2 hb2 ho2; have HX2 : Hid (Bxo w2 w.heap.size 31 [.slice A1 n c1, .slice B n d, .int .i64 x.now]) := Go.Lib.hid hb2; have HO2 := Go.Lib.hid ho2; clear hb2 ho2))
  have c1' := HX2.out.cell 1 rfl
  have hlt2 := HX2.out.lt
  have hne2 : w.heap.size ≠ w2.heap.size := by omega
  have hs2a := Nat.le_of_eq HO2.out.size
  have hs2b := Nat.le_of_eq HO2.out.size.symm
  have HF2 := Go.Lib.hid (HF1.out.only HO2.out (by omega))
  have HZ2 := Go.Lib.hid (HZ1.out.only HO2.out (by omega))
  obtain ⟨g1, rfl, hg1, hg1'⟩ : ∃ g, A1 = some ⟨g, 0, none⟩ ∧ W.heap.size ≤ g ∧ g < w1.heap.size := by
    rcases own_addr HO1.out with ⟨_, hz, _⟩ | ⟨g, e, h1, h2⟩
    · omega
    · exact ⟨g, e, h1, h2⟩
  have HO2' := Go.Lib.hid (own_keep (w' := w2) HO1.out (HO2.out.block g1 (by omega)))
  have y2 : Below w.heap.size w w2 := (y0.trans (y1.mono y0.size)).trans (HO2.out.below (Nat.le_refl _))
  have HC2 := Go.Lib.hid (HC0.out.flows.rd.keep y2)
  clear c0 hlt hne
  go_upto_region 3 with (first
    | (at_builtin; refine wpList_copy_rdK rfl _ _ 29 rfl 40 i0_ _ 12 96 Try.underlying29 hi_ hz0 hz1 hz2 rfl (by omega) rfl B n d ((flowsF x.slots).flatMap Fl.L) rfl hfl (fun e => ⟨hfn e, by have := hfn e; omega⟩) HC2.out (fl_one _) (by unfold maxLen; omega) (by omega) ?_; intro v3 w3 ho3 y3; obtain ⟨B3, d3, rfl⟩ := own_slice ho3; have HO3 := Go.Lib.hid ho3; have HX3 := Go.Lib.hid (HX2.out.keep y3 HX2.out.lt); have HF3 := Go.Lib.hid (HF2.out.keep y3 HF2.out.lt); have HZ3 := Go.Lib.hid (HZ2.out.keep y3 HZ2.out.lt); have HU3 := Go.Lib.hid (own_keep (w' := w3) HO2'.out (y3.block g1 (by omega))); have hs3 := y3.size; clear ho3; dsimp only)
    | (refine wpList_store_any rfl 29 _ _ rfl w.heap.size 1 31 _ [.slice B3 n d3] _ rfl rfl rfl HX3.out info_flsl (by show 1 + 1 ≤ 3; omega) (by simp [Value.oneCell']) ?_; intro w4 hb4 ho4; have HX4 : Hid (Bxo w4 w.heap.size 31 [.slice (some ⟨g1, 0, none⟩) n c1, .slice B3 n d3, .int .i64 x.now]) := Go.Lib.hid hb4; have HO4 := Go.Lib.hid ho4; clear hb4 ho4))
  have hs4a := Nat.le_of_eq HO4.out.size
  have hs4b := Nat.le_of_eq HO4.out.size.symm
  have HF4 := Go.Lib.hid (HF3.out.only HO4.out (by omega))
  have HZ4 := Go.Lib.hid (HZ3.out.only HO4.out (by omega))
  obtain ⟨g3, rfl, hg3, hg3'⟩ : ∃ g, B3 = some ⟨g, 0, none⟩ ∧ w2.heap.size ≤ g ∧ g < w3.heap.size := by
    rcases own_addr HO3.out with ⟨_, hz, _⟩ | ⟨g, e, h1, h2⟩
    · omega
    · exact ⟨g, e, h1, h2⟩
  have HU4 := Go.Lib.hid (own_keep (w' := w4) HU3.out (HO4.out.block g1 (by omega)))
  have HV4 := Go.Lib.hid (own_keep (w' := w4) HO3.out (HO4.out.block g3 (by omega)))
  have y4 : Below w.heap.size w w4 := (y2.trans (y3.mono y2.size)).trans (HO4.out.below (Nat.le_refl _))
  have c0 := HX4.out.cell 0 rfl
  have c1'' := HX4.out.cell 1 rfl
  clear c1' hlt2 hne2
  obtain ⟨cu, k1, k2, _⟩ := own_open HU4.out
  obtain ⟨cv, m1, m2, _⟩ := own_open HV4.out
  have huc := (own_cap HU4.out).1
  have hvc := (own_cap HV4.out).1
  have HK1 := Go.Lib.hid k1
  have HM1 := Go.Lib.hid m1
  have hcu : i + 1 ≤ cu.length := by rw [k2]; omega
  have hcv : i * 12 + 12 ≤ cv.length := by
    rw [m2]
    have : (i + 1) * 12 ≤ d3 * 12 := Nat.mul_le_mul_right 12 (by omega)
    omega
  have i1 : (0 : Int) ≤ (i : Int) := by omega
  have i2 : (i : Int) < (n : Int) := by omega
  clear k1 k2 m1 m2
  go_upto_region 4 with (refine wpList_store_any rfl 4 _ _ rfl g1 i 4 cu [.bool b] _ rfl rfl rfl HK1.out info_bl hcu (by simp [Value.oneCell']) ?_; intro w5 hb5 ho5; have HB5 := Go.Lib.hid hb5; have HO5 := Go.Lib.hid ho5; clear hb5 ho5)
  have hs5a := Nat.le_of_eq HO5.out.size
  have hs5b := Nat.le_of_eq HO5.out.size.symm
  have HX5 := Go.Lib.hid (HX4.out.only HO5.out (by omega))
  have HF5 := Go.Lib.hid (HF4.out.only HO5.out (by omega))
  have HZ5 := Go.Lib.hid (HZ4.out.only HO5.out (by omega))
  have HM5 := Go.Lib.hid (HM1.out.only HO5.out (by omega))
  have HU5 := Go.Lib.hid (own_spl HU4.out HK1.out (by show i + 1 ≤ n * 1; omega) HB5.out)
  have HV5 := Go.Lib.hid (own_keep (w' := w5) HV4.out (HO5.out.block g3 (by omega)))
  have c0 := HX5.out.cell 0 rfl
  have c1'' := HX5.out.cell 1 rfl
  go_upto_region 5 with (first
    | (refine wpList_load_box rfl 40 _ rfl (w.heap.size + 1) rfl (flL f) _ HF5.out Try.underlying40 rfl info_fl ?_)
    | (refine wpList_store_any rfl 40 _ _ rfl g3 (i * 12) 40 cv (flL f) _ rfl rfl rfl HM5.out info_fl hcv (fl_one1 f) ?_; intro w6 hb6 ho6; have HB6 := Go.Lib.hid hb6; have HO6 := Go.Lib.hid ho6; clear hb6 ho6))
  have hs6a := Nat.le_of_eq HO6.out.size
  have hs6b := Nat.le_of_eq HO6.out.size.symm
  have HX6 := Go.Lib.hid (HX5.out.only HO6.out (by omega))
  have HZ6 := Go.Lib.hid (HZ5.out.only HO6.out (by omega))
  have HU6 := Go.Lib.hid (own_keep (w' := w6) HU5.out (HO6.out.block g1 (by omega)))
  have HV6 := Go.Lib.hid (own_spl HV5.out HM5.out (by show i * 12 + 12 ≤ n * 12; have : (i + 1) * 12 ≤ n * 12 := Nat.mul_le_mul_right 12 (by omega); omega) HB6.out)
  clear c0 c1''
  go_wp2_with (first
    | (refine wpList_load_box rfl 31 _ rfl w.heap.size rfl [.slice (some ⟨g1, 0, none⟩) n c1, .slice (some ⟨g3, 0, none⟩) n d3, .int .i64 x.now] _ HX6.out Try.underlying31 rfl info_sd ?_)
    | (refine wpList_store_any rfl 31 _ _ rfl (w.heap.size + 1 + 1) 0 31 _ [.slice (some ⟨g1, 0, none⟩) n c1, .slice (some ⟨g3, 0, none⟩) n d3, .int .i64 x.now] _ rfl rfl rfl HZ6.out info_sd (by show 0 + 3 ≤ 3; omega) (by simp [Value.oneCell']) ?_; intro w7 hb7 ho7; have HB7 := Go.Lib.hid hb7; have HO7 := Go.Lib.hid ho7; clear hb7 ho7))
  have hs7 := HO7.out.size
  have y7 : Below w.heap.size w w7 := ((y4.trans (HO5.out.below (by omega))).trans (HO6.out.below (by omega))).trans (HO7.out.below (by omega))
  have hu7 := own_keep (w' := w7) HU6.out (HO7.out.block g1 (by omega))
  have hv7 := own_keep (w' := w7) HV6.out (HO7.out.block g3 (by omega))
  rw [HSU.out] at hu7
  rw [HSF.out] at hv7
  refine bodyPost_ret (v := .agg #[.slice (some ⟨g1, 0, none⟩) n c1, .slice (some ⟨g3, 0, none⟩) n d3, .int .i64 x.now]) (results_cell_row rfl _ _ (w.heap.size + 1 + 1) 31 _ _ _ rfl HB7.out Try.underlying31 rfl info_sd) rfl ⟨some ⟨g1, 0, none⟩, c1, some ⟨g3, 0, none⟩, d3, by rw [← HNS.out], ⟨⟨BlsAt.ofOwn HLU.out hu7, FlsAt.ofOwn HLF.out hv7⟩, y7, ?_, ?_⟩⟩
  · intro ad e
    cases e
    exact ⟨by show w.heap.size ≤ g1; omega, by show g1 < w7.heap.size; omega⟩
  · intro ad e
    cases e
    exact ⟨by show w.heap.size ≤ g3; omega, by show g3 < w7.heap.size; omega⟩
end Go.Proofs.Ytofpalmghdapkaa

/- The document's own answers for package flows: New. -/
namespace Go.Proofs.Ytofpalmghdapkaa
open Go.ChangeShapes Go.WideShapes Go.ChangeAt Go.RowKit
set_option linter.unusedVariables false
set_option linter.unusedSimpArgs false

/-- a struct and a number, as two results. -/
theorem results_ct12 {P : Program} {fn : Func} {p u : Tmp} {t1 : TypeId} (h : fn.results = #[.cell p t1, .tmp u]) (tmps : Array Value) (w : World) (g1 : Nat) (c1 : List Value) (d1 : TypeDesc)
    (hp : tmps.getD p undef = .pointer (some ⟨g1, 0, none⟩)) (h1 : Bxo w g1 t1 c1)
    (u1 : P.underlying t1 = some d1) (r1 : (match d1 with | .struct _ | .array _ _ => true | _ => false) = true) (i1 : (P.info? t1).map (·.size) = some c1.length) :
    (results fn tmps).run P w = .ok (.tuple #[.agg c1.toArray, tmps.getD u undef]) w := by
  have hp' : tmps[p]?.getD undef = .pointer (some ⟨g1, 0, none⟩) := by simpa using hp
  have e1 := run_loadVar_row (P := P) w g1 t1 t1 c1.toArray (0, 0) d1 h1 u1 r1 (by simpa using i1)
  simp [results, h, hp', asAddr, e1]
/-- 'make([]T, n)', as a step of a region that draws. -/
theorem step_make {P : Program} {op : Oper} {a : Act} {w : World} {K : Act → World → Prop} {Q : Exit → Act → World → Prop} (t : TypeId) (x y : Operand) (ho : op.op = Op.makeSlice t x y)
    (base : Nat) (e : TypeId) (i : TypeInfo) (z : Value) (size : Nat) (h1 : P.underlying t = some (.slice e)) (h2 : P.info? e = some i) (h3 : i.zero = some z) (h4 : i.size = size)
    (kl kc : IntKind) (n : Nat) (hl : a.eval x = .int kl (n : Int)) (hc : a.eval y = .int kc (n : Int)) (b2 : i.bytes * n ≤ 281474976710656) (b3 : n ≤ maxLen) (b4 : base ≤ w.heap.size)
    (hK : ∀ g w', (g ≤ w.heap.size ∧ w.heap.size ≤ g) → w'.ownsRow base e size (.slice (some ⟨g, 0, none⟩) n n) n (madeCells z.cells (n * size)).toList → Below w.heap.size w w' → K (a.put op.dst (.slice (some ⟨g, 0, none⟩) n n)) w') : op.wp P a w K Q := by
  obtain ⟨w', hrun, r1, r2⟩ := run_make_full (P := P) w base t e i z size h1 h2 h3 h4 kl kc n b2 b3 b4
  unfold Oper.wp
  simp [execOp, ho, hl, hc, hrun, Result.andThen]
  exact hK _ w' ⟨Nat.le_refl _, Nat.le_refl _⟩ r1 ((Below.refl _ _).grown r2 (Nat.le_refl _) (fun k hk => by cases hk))
/-- but one block, of all that were there nothing has turned. -/
structure Sx (g : Nat) (W Y : World) : Prop where
  gro : Gro g W Y
theorem Sx.size {g : Nat} {W Y : World} (h : Sx g W Y) : W.heap.size ≤ Y.heap.size := h.gro.size
theorem Sx.start (W : World) (g : Nat) : Sx g W W.drew := ⟨gro_below (below_drew (Below.refl _ _))⟩
theorem Sx.grow {g : Nat} {W Y Z : World} (h : Sx g W Y) (y : Below Y.heap.size Y Z) : Sx g W Z := ⟨h.gro.trans (gro_below y)⟩
theorem Sx.store {g : Nat} {W Y Z : World} (h : Sx g W Y) (o : Only g Y Z) : Sx g W Z := ⟨h.gro.trans o.gro⟩
theorem Sx.low {w W Y : World} (h : Sx w.heap.size W Y) (y : Below w.heap.size w W) : Below w.heap.size w Y := y.trans (h.gro.below (Nat.le_refl _) y.size)
theorem used_made (n : Nat) : (madeCells (Value.bool false).cells (n * 1)).toList = (usedF (List.replicate n none)).map (fun b => Value.bool b) := by
  have h := flat_made (fun b : Bool => [Value.bool b]) 1 (fun _ => rfl) (by omega) false n
  have e : (usedF (List.replicate n none)) = List.replicate n false := by unfold usedF; rw [List.map_replicate]; rfl
  rw [e]
  refine h.trans ?_
  induction n with
  | zero => rfl
  | succ k ih => rw [List.replicate_succ, List.flatMap_cons, List.map_cons, ih (flat_made (fun b : Bool => [Value.bool b]) 1 (fun _ => rfl) (by omega) false k) (by unfold usedF; rw [List.map_replicate]; rfl)]; rfl
theorem flows_made (n : Nat) : (madeCells (Value.agg #[.int .i64 0, .int .u32 0, .int .i64 0, .int .u32 0, .int .i64 0, .int .i64 0, .int .u32 0, .int .i64 0, .int .u32 0, .int .i64 0, .int .i64 0, .int .i64 0]).cells (n * 12)).toList = (flowsF (List.replicate n none)).flatMap Fl.L := by
  have e : (flowsF (List.replicate n none)) = List.replicate n fl0 := by unfold flowsF; rw [List.map_replicate]; rfl
  rw [e]
  exact flat_made Fl.L 12 Fl.len (by omega) fl0 n
/-- what New answers. -/
def newD (room : Int) : Sr × Int := match newS room with
  | none => (sr0, 1)
  | some s => (s, 0)
set_option maxRecDepth 100000 in
set_option maxHeartbeats 4000000 in
theorem rnew12 (room : Int) (w : World) (q : Sr × Int) (hq : newD room = q) :
    Calls Try.prog 8 #[.int .i64 room] w fun e w' => ∃ A c B d, e = .returned (.tuple #[sdV q.1 A c B d, .int .i64 q.2]) ∧ SdNew w w' none none q.1 A c B d := by
  have y0 : Below w.heap.size w (w.alloc (oSd sr0 none 0 none 0)) := (Below.refl _ _).alloc (Nat.le_refl _) _
  have h1 := Bxo.made w 31 (sdL sr0 none 0 none 0)
  by_cases h0 : room < 1 ∨ room > 256
  · have HQ : Hid (q = (sr0, 1)) := Go.Lib.hid (by rw [← hq]; unfold newD newS; rw [if_pos h0])
    clear hq
    rcases h0 with h0 | h0
    · go_enter Try.func8, Try.ntmps8
      go_upto_region 1 with fail
      generalize w.alloc (oSd sr0 none 0 none 0) = W at *
      have HZ := Go.Lib.hid h1
      clear h1
      go_wp2_with (refine wpList_store_any rfl 31 _ _ rfl w.heap.size 0 31 _ (sdL sr0 none 0 none 0) _ rfl rfl rfl HZ.out info_sd (by show 0 + 3 ≤ 3; omega) (by simp [Value.oneCell']) ?_; intro ws hbs hos; have HB := Go.Lib.hid hbs; clear hbs)
      exact bodyPost_ret (v := .tuple #[.agg #[.slice none 0 0, .slice none 0 0, .int .i64 0], .int .i64 1]) (results_ct12 (p := 2) (u := 3) rfl _ _ w.heap.size _ _ rfl HB.out Try.underlying31 rfl info_sd) rfl ⟨none, 0, none, 0, by rw [HQ.out]; rfl, by rw [HQ.out]; exact ⟨⟨⟨Nat.le_refl _, by omega, fun _ => rfl, .inl rfl⟩, ⟨Nat.le_refl _, by omega, fun _ => rfl, .inl rfl⟩⟩, y0.trans (hos.below (Nat.le_refl _)), .inl ⟨rfl, rfl⟩⟩⟩
    · have h0' : ¬ room < 1 := by omega
      go_enter Try.func8, Try.ntmps8
      go_upto_region 1 with fail
      generalize w.alloc (oSd sr0 none 0 none 0) = W at *
      have HZ := Go.Lib.hid h1
      clear h1
      go_wp2_with (refine wpList_store_any rfl 31 _ _ rfl w.heap.size 0 31 _ (sdL sr0 none 0 none 0) _ rfl rfl rfl HZ.out info_sd (by show 0 + 3 ≤ 3; omega) (by simp [Value.oneCell']) ?_; intro ws hbs hos; have HB := Go.Lib.hid hbs; clear hbs)
      exact bodyPost_ret (v := .tuple #[.agg #[.slice none 0 0, .slice none 0 0, .int .i64 0], .int .i64 1]) (results_ct12 (p := 2) (u := 3) rfl _ _ w.heap.size _ _ rfl HB.out Try.underlying31 rfl info_sd) rfl ⟨none, 0, none, 0, by rw [HQ.out]; rfl, by rw [HQ.out]; exact ⟨⟨⟨Nat.le_refl _, by omega, fun _ => rfl, .inl rfl⟩, ⟨Nat.le_refl _, by omega, fun _ => rfl, .inl rfl⟩⟩, y0.trans (hos.below (Nat.le_refl _)), .inl ⟨rfl, rfl⟩⟩⟩
  · obtain ⟨n, rfl⟩ := Int.eq_ofNat_of_zero_le (show 0 ≤ room by omega)
    have HQ : Hid (q = (⟨List.replicate n none, 0⟩, 0)) := Go.Lib.hid (by rw [← hq]; unfold newD newS; rw [if_neg h0]; rfl)
    have hn1 : 1 ≤ n := by omega
    have hn2 : n ≤ 256 := by omega
    have r1 : ¬ (n : Int) < 1 := by omega
    have r2 : ¬ 256 < (n : Int) := by omega
    have HNL : Hid ((List.replicate n (none : Option Fl)).length = n) := Go.Lib.hid List.length_replicate
    have HLU : Hid ((usedF (List.replicate n none)).length = n) := Go.Lib.hid (by rw [used_len, List.length_replicate])
    have HLF : Hid ((flowsF (List.replicate n none)).length = n) := Go.Lib.hid (by rw [flows_len, List.length_replicate])
    have HMU := Go.Lib.hid (used_made n)
    have HMV := Go.Lib.hid (flows_made n)
    obtain ⟨i0_, hi_, hz0, hz1, hz2⟩ := info_parts info_flz
    obtain ⟨j0_, hj_, hy0, hy1, hy2⟩ := info_parts info_blz
    clear hq h0
    go_enter Try.func8, Try.ntmps8
    go_upto_region 3 with fail
    have hws : (w.alloc (oSd sr0 none 0 none 0)).heap.size = w.heap.size + 1 := by simp
    generalize w.alloc (oSd sr0 none 0 none 0) = W at *
    have HZ := Go.Lib.hid (show Bxo W.drew w.heap.size 31 (sdL sr0 none 0 none 0) from h1)
    have hws' : w.heap.size < W.heap.size := by omega
    have hwd : W.drew.heap.size = W.heap.size := rfl
    clear h1 hws
    try simp only [Act.put, List.setIfInBounds_toArray, List.set_cons_zero, List.set_cons_succ]
    refine wp_region_held_drew (S := fun Y => Sx w.heap.size W Y) (by kernel_rfl) ?_ (fun hHeld => ?_)
    · exact Sx.start W w.heap.size
    refine wpAnyH_take (i := 0) (oi := ⟨some 11, _, _, _, _, _⟩) (v := ?_) rfl (by kernel_rfl) (by kernel_rfl) (by kernel_rfl) (fun _ _ _ h => h) (Or.inl ⟨by rfl, ?_⟩) (by assumption) ?_
    rotate_left
    · intro w hSw; (try dsimp only at hSw); go_simp; (try with_reducible rfl)
    try simp only [Act.put, List.setIfInBounds_toArray, List.set_cons_zero, List.set_cons_succ]
    refine wpAnyH_take (i := 2) (oi := ⟨some 13, _, _, _, _, _⟩) (v := ?_) rfl (by kernel_rfl) (by kernel_rfl) (by kernel_rfl) (fun _ _ _ h => h) (Or.inl ⟨by rfl, ?_⟩) (by assumption) ?_
    rotate_left
    · intro w hSw; (try dsimp only at hSw); go_simp; (try with_reducible rfl)
    try simp only [Act.put, List.setIfInBounds_toArray, List.set_cons_zero, List.set_cons_succ]
    refine wpAnyH_ready (rs := [1, 3]) (by kernel_rfl) (by simp) (AllReadyH.cons (o := ⟨some 12, _, _, _, _, _⟩) rfl (fun Kc hKc => ?_) (AllReadyH.cons (o := ⟨some 14, _, _, _, _, _⟩) rfl (fun Kc hKc => ?_) AllReadyH.nil))
    ·
      rw [if_pos (by rfl)]
      have hzl := HZ.out.lt; refine step_make 28 _ _ rfl W.heap.size 4 j0_ _ 1 Try.underlying28 hj_ hy0 hy1 .i64 .i64 n rfl rfl (by rw [hy2]; omega) (by unfold maxLen; omega) hHeld.size ?_; intro gu wu hgu hou yu; have HU := Go.Lib.hid hou; (try have HV := Go.Lib.hid (own_keep (w' := wu) HV.out (yu.block gv (by omega)))); have HZ := Go.Lib.hid (HZ.out.keep yu HZ.out.lt); have hul := own_ltF hou gu rfl; clear hou
      refine hKc.out _ _ (Sx.grow hHeld yu) (fun hHeld => ?_)
      clear hKc Kc
      try simp only [Act.put, List.setIfInBounds_toArray, List.set_cons_zero, List.set_cons_succ]
      refine wpAnyH_ready (rs := [3]) (by kernel_rfl) (by simp) (AllReadyH.cons (o := ⟨some 14, _, _, _, _, _⟩) rfl (fun Kc hKc => ?_) AllReadyH.nil)
      rw [if_pos (by rfl)]
      have hzl := HZ.out.lt; refine step_make 29 _ _ rfl W.heap.size 40 i0_ _ 12 Try.underlying29 hi_ hz0 hz1 .i64 .i64 n rfl rfl (by rw [hz2]; omega) (by unfold maxLen; omega) hHeld.size ?_; intro gv wv hgv hov yv; have HV := Go.Lib.hid hov; (try have HU := Go.Lib.hid (own_keep (w' := wv) HU.out (yv.block gu (by omega)))); have HZ := Go.Lib.hid (HZ.out.keep yv HZ.out.lt); have hvl := own_ltF hov gv rfl; clear hov
      refine hKc.out _ _ (Sx.grow hHeld yv) (fun hHeld => ?_)
      clear hKc Kc
      try simp only [Act.put, List.setIfInBounds_toArray, List.set_cons_zero, List.set_cons_succ]
      refine wpAnyH_take (i := 4) (oi := ⟨some 15, _, _, _, _, _⟩) (v := ?_) rfl (by kernel_rfl) (by kernel_rfl) (by kernel_rfl) (fun _ _ _ h => h) (Or.inl ⟨by rfl, ?_⟩) (by assumption) ?_
      rotate_left
      · intro w hSw; (try dsimp only at hSw); go_simp; (try with_reducible rfl)
      try simp only [Act.put, List.setIfInBounds_toArray, List.set_cons_zero, List.set_cons_succ]
      refine wpAnyH_ready (rs := [5]) (by kernel_rfl) (by simp) (AllReadyH.cons (o := ⟨none, _, _, _, _, _⟩) rfl (fun Kc hKc => ?_) AllReadyH.nil)
      rw [if_pos (by rfl)]
      refine step_store_any 31 _ _ rfl w.heap.size 0 31 _ [.slice (some ⟨gu, 0, none⟩) n n, .slice (some ⟨gv, 0, none⟩) n n, .int .i64 0] _ rfl rfl rfl HZ.out info_sd (by show 0 + 3 ≤ 3; omega) (by simp [Value.oneCell']) ?_; intro ws hbs hos; have HB := Go.Lib.hid hbs; have HU := Go.Lib.hid (own_keep (w' := ws) HU.out (hos.block gu (by omega))); have HV := Go.Lib.hid (own_keep (w' := ws) HV.out (hos.block gv (by omega))); clear hbs
      refine hKc.out _ _ (Sx.store hHeld hos) (fun hHeld => ?_)
      clear hKc Kc
      try simp only [Act.put, List.setIfInBounds_toArray, List.set_cons_zero, List.set_cons_succ]
      refine wpAnyH_take (i := 6) (oi := ⟨some 3, _, _, _, _, _⟩) (v := ?_) rfl (by kernel_rfl) (by kernel_rfl) (by kernel_rfl) (fun _ _ _ h => h) (Or.inl ⟨by rfl, ?_⟩) (by assumption) ?_
      rotate_left
      · intro w hSw; (try dsimp only at hSw); go_simp; (try with_reducible rfl)
      try simp only [Act.put, List.setIfInBounds_toArray, List.set_cons_zero, List.set_cons_succ]
      refine wpAnyH_done (by kernel_rfl) ?_ _
      have yq := hHeld
      clear hHeld
      have hu := HU.out
      have hv := HV.out
      rw [HMU.out] at hu
      rw [HMV.out] at hv
      go_wp2
      refine bodyPost_ret (v := .tuple #[.agg #[.slice (some ⟨gu, 0, none⟩) n n, .slice (some ⟨gv, 0, none⟩) n n, .int .i64 0], .int .i64 0]) (results_ct12 (p := 2) (u := 3) rfl _ _ w.heap.size _ _ rfl HB.out Try.underlying31 rfl info_sd) rfl ⟨some ⟨gu, 0, none⟩, n, some ⟨gv, 0, none⟩, n, by rw [HQ.out]; simp only [sdV, HNL.out], ?_⟩
      rw [HQ.out]
      refine ⟨⟨BlsAt.ofOwn HLU.out hu, FlsAt.ofOwn HLF.out hv⟩, yq.low y0, .inr ⟨?_, ?_⟩⟩
      · intro ad e
        cases e
        exact ⟨by show w.heap.size ≤ gu; omega, own_ltF hu gu rfl⟩
      · intro ad e
        cases e
        exact ⟨by show w.heap.size ≤ gv; omega, own_ltF hv gv rfl⟩
    ·
      rw [if_pos (by rfl)]
      have hzl := HZ.out.lt; refine step_make 29 _ _ rfl W.heap.size 40 i0_ _ 12 Try.underlying29 hi_ hz0 hz1 .i64 .i64 n rfl rfl (by rw [hz2]; omega) (by unfold maxLen; omega) hHeld.size ?_; intro gv wv hgv hov yv; have HV := Go.Lib.hid hov; (try have HU := Go.Lib.hid (own_keep (w' := wv) HU.out (yv.block gu (by omega)))); have HZ := Go.Lib.hid (HZ.out.keep yv HZ.out.lt); have hvl := own_ltF hov gv rfl; clear hov
      refine hKc.out _ _ (Sx.grow hHeld yv) (fun hHeld => ?_)
      clear hKc Kc
      try simp only [Act.put, List.setIfInBounds_toArray, List.set_cons_zero, List.set_cons_succ]
      refine wpAnyH_ready (rs := [1]) (by kernel_rfl) (by simp) (AllReadyH.cons (o := ⟨some 12, _, _, _, _, _⟩) rfl (fun Kc hKc => ?_) AllReadyH.nil)
      rw [if_pos (by rfl)]
      have hzl := HZ.out.lt; refine step_make 28 _ _ rfl W.heap.size 4 j0_ _ 1 Try.underlying28 hj_ hy0 hy1 .i64 .i64 n rfl rfl (by rw [hy2]; omega) (by unfold maxLen; omega) hHeld.size ?_; intro gu wu hgu hou yu; have HU := Go.Lib.hid hou; (try have HV := Go.Lib.hid (own_keep (w' := wu) HV.out (yu.block gv (by omega)))); have HZ := Go.Lib.hid (HZ.out.keep yu HZ.out.lt); have hul := own_ltF hou gu rfl; clear hou
      refine hKc.out _ _ (Sx.grow hHeld yu) (fun hHeld => ?_)
      clear hKc Kc
      try simp only [Act.put, List.setIfInBounds_toArray, List.set_cons_zero, List.set_cons_succ]
      refine wpAnyH_take (i := 4) (oi := ⟨some 15, _, _, _, _, _⟩) (v := ?_) rfl (by kernel_rfl) (by kernel_rfl) (by kernel_rfl) (fun _ _ _ h => h) (Or.inl ⟨by rfl, ?_⟩) (by assumption) ?_
      rotate_left
      · intro w hSw; (try dsimp only at hSw); go_simp; (try with_reducible rfl)
      try simp only [Act.put, List.setIfInBounds_toArray, List.set_cons_zero, List.set_cons_succ]
      refine wpAnyH_ready (rs := [5]) (by kernel_rfl) (by simp) (AllReadyH.cons (o := ⟨none, _, _, _, _, _⟩) rfl (fun Kc hKc => ?_) AllReadyH.nil)
      rw [if_pos (by rfl)]
      refine step_store_any 31 _ _ rfl w.heap.size 0 31 _ [.slice (some ⟨gu, 0, none⟩) n n, .slice (some ⟨gv, 0, none⟩) n n, .int .i64 0] _ rfl rfl rfl HZ.out info_sd (by show 0 + 3 ≤ 3; omega) (by simp [Value.oneCell']) ?_; intro ws hbs hos; have HB := Go.Lib.hid hbs; have HU := Go.Lib.hid (own_keep (w' := ws) HU.out (hos.block gu (by omega))); have HV := Go.Lib.hid (own_keep (w' := ws) HV.out (hos.block gv (by omega))); clear hbs
      refine hKc.out _ _ (Sx.store hHeld hos) (fun hHeld => ?_)
      clear hKc Kc
      try simp only [Act.put, List.setIfInBounds_toArray, List.set_cons_zero, List.set_cons_succ]
      refine wpAnyH_take (i := 6) (oi := ⟨some 3, _, _, _, _, _⟩) (v := ?_) rfl (by kernel_rfl) (by kernel_rfl) (by kernel_rfl) (fun _ _ _ h => h) (Or.inl ⟨by rfl, ?_⟩) (by assumption) ?_
      rotate_left
      · intro w hSw; (try dsimp only at hSw); go_simp; (try with_reducible rfl)
      try simp only [Act.put, List.setIfInBounds_toArray, List.set_cons_zero, List.set_cons_succ]
      refine wpAnyH_done (by kernel_rfl) ?_ _
      have yq := hHeld
      clear hHeld
      have hu := HU.out
      have hv := HV.out
      rw [HMU.out] at hu
      rw [HMV.out] at hv
      go_wp2
      refine bodyPost_ret (v := .tuple #[.agg #[.slice (some ⟨gu, 0, none⟩) n n, .slice (some ⟨gv, 0, none⟩) n n, .int .i64 0], .int .i64 0]) (results_ct12 (p := 2) (u := 3) rfl _ _ w.heap.size _ _ rfl HB.out Try.underlying31 rfl info_sd) rfl ⟨some ⟨gu, 0, none⟩, n, some ⟨gv, 0, none⟩, n, by rw [HQ.out]; simp only [sdV, HNL.out], ?_⟩
      rw [HQ.out]
      refine ⟨⟨BlsAt.ofOwn HLU.out hu, FlsAt.ofOwn HLF.out hv⟩, yq.low y0, .inr ⟨?_, ?_⟩⟩
      · intro ad e
        cases e
        exact ⟨by show w.heap.size ≤ gu; omega, own_ltF hu gu rfl⟩
      · intro ad e
        cases e
        exact ⟨by show w.heap.size ≤ gv; omega, own_ltF hv gv rfl⟩
end Go.Proofs.Ytofpalmghdapkaa

/- Stores of flows: what is due, one after another: plain mathematics. -/
namespace Go.Proofs.Ytofpalmghdapkaa
set_option linter.unusedVariables false

/-- the alarms of slots from a number on. -/
def alG : Nat → List (Option Fl) → List Al
  | _, [] => []
  | s, none :: t => alG (s + 1) t
  | s, some f :: t => ⟨(s : Int), f.until_⟩ :: alG (s + 1) t
theorem alG_range (L : List (Option Fl)) : ∀ (l : List (Option Fl)) (s : Nat), (∀ j, slotF L (s + j) = slotF l j) → (List.range' s l.length).filterMap (fun (i : Nat) => (slotF L i).map (fun f => (⟨(i : Int), f.until_⟩ : Al))) = alG s l
  | [], s, _ => rfl
  | o :: t, s, h => by
    have h0 := h 0
    rw [Nat.add_zero, slot_cons0] at h0
    have ih := alG_range L t (s + 1) (fun j => by have := h (j + 1); rw [slot_consS] at this; rw [← this]; congr 1; omega)
    rw [List.length_cons, List.range'_succ, List.filterMap_cons, h0]
    cases o with
    | none => exact ih
    | some f => simp only [Option.map_some, alG, ih]
theorem alF_alG (l : List (Option Fl)) : alF l = alG 0 l := by
  unfold alF
  rw [List.range_eq_range']
  exact alG_range l l 0 (fun j => by rw [Nat.zero_add])
theorem alG_append : ∀ (a b : List (Option Fl)) (s : Nat), alG s (a ++ b) = alG s a ++ alG (s + a.length) b
  | [], b, s => by simp [alG]
  | none :: t, b, s => by
    have := alG_append t b (s + 1)
    rw [List.cons_append, alG, alG, this, List.length_cons]
    congr 2
    omega
  | some f :: t, b, s => by
    have := alG_append t b (s + 1)
    rw [List.cons_append, alG, alG, this, List.length_cons, List.cons_append]
    congr 3
    omega
theorem alG_mem {a : Al} : ∀ {l : List (Option Fl)} {s : Nat}, a ∈ alG s l ↔ ∃ j f, slotF l j = some f ∧ a = ⟨((s + j : Nat) : Int), f.until_⟩
  | [], s => by
    simp only [alG, List.not_mem_nil, false_iff]
    rintro ⟨j, f, h, _⟩
    have := slot_lt h
    simp at this
  | o :: t, s => by
    have ih := alG_mem (a := a) (l := t) (s := s + 1)
    constructor
    · intro h
      cases o with
      | none =>
        rw [alG] at h
        obtain ⟨j, f, h1, h2⟩ := ih.1 h
        exact ⟨j + 1, f, h1, by rw [h2]; congr 2; omega⟩
      | some g =>
        rw [alG, List.mem_cons] at h
        rcases h with h | h
        · exact ⟨0, g, rfl, h⟩
        · obtain ⟨j, f, h1, h2⟩ := ih.1 h
          exact ⟨j + 1, f, h1, by rw [h2]; congr 2; omega⟩
    · rintro ⟨j, f, h1, h2⟩
      cases j with
      | zero =>
        rw [slot_cons0] at h1
        subst h1
        rw [alG, h2]
        exact List.mem_cons_self
      | succ j =>
        rw [slot_consS] at h1
        have := ih.2 ⟨j, f, h1, by rw [h2]; congr 2; omega⟩
        cases o with
        | none => rw [alG]; exact this
        | some g => rw [alG]; exact List.mem_cons_of_mem _ this
theorem alF_mem {a : Al} {l : List (Option Fl)} : a ∈ alF l ↔ ∃ j f, slotF l j = some f ∧ a = ⟨(j : Int), f.until_⟩ := by
  rw [alF_alG, alG_mem]
  constructor
  · rintro ⟨j, f, h1, h2⟩
    exact ⟨j, f, h1, by rw [h2, Nat.zero_add]⟩
  · rintro ⟨j, f, h1, h2⟩
    exact ⟨j, f, h1, by rw [h2, Nat.zero_add]⟩
theorem alG_length : ∀ (l : List (Option Fl)) (s : Nat), (alG s l).length ≤ l.length
  | [], s => Nat.le_refl _
  | none :: t, s => by have := alG_length t (s + 1); rw [alG, List.length_cons]; omega
  | some f :: t, s => by have := alG_length t (s + 1); rw [alG, List.length_cons, List.length_cons]; omega
theorem alF_length (l : List (Option Fl)) : (alF l).length ≤ l.length := by rw [alF_alG]; exact alG_length l 0
/-- a flow's alarm stands among the others. -/
theorem alF_cut {l : List (Option Fl)} {p : Nat} {f : Fl} (h : slotF l p = some f) : ∃ l1 l2, alF l = l1 ++ ⟨(p : Int), f.until_⟩ :: l2 ∧ alF (l.set p none) = l1 ++ l2 := by
  have hp := slot_lt h
  have e : l = l.take p ++ some f :: l.drop (p + 1) := by
    have h1 := List.take_append_drop p l
    rw [List.drop_eq_getElem_cons hp, ← slot_get hp, h] at h1
    exact h1.symm
  have hl : (l.take p).length = p := by rw [List.length_take]; omega
  refine ⟨alG 0 (l.take p), alG (p + 1) (l.drop (p + 1)), ?_, ?_⟩
  · conv => lhs; rw [e]
    rw [alF_alG, alG_append, hl, Nat.zero_add, alG]
  · rw [List.set_eq_take_append_cons_drop, if_pos hp, alF_alG, alG_append, hl, Nat.zero_add, alG]
theorem alF_none {l : List (Option Fl)} {p : Nat} (h : slotF l p = none) : l.set p none = l := by
  rcases Nat.lt_or_ge p l.length with hp | hp
  · rw [slot_get hp] at h
    rw [← h, List.set_getElem_self]
  · exact List.set_eq_of_length_le hp
/-- the flow of an alarm. -/
def flowA (l : List (Option Fl)) (a : Al) : Fl := (slotF l a.num.toNat).getD fl0
theorem flowA_set {l : List (Option Fl)} {p : Nat} (hp : p < l.length) {now : Int} : (dueA (alF (l.set p none)) now).map (flowA l) = (dueA (alF (l.set p none)) now).map (flowA (l.set p none)) := by
  refine List.map_congr_left fun a ha => ?_
  obtain ⟨h1, _⟩ := due_mem.1 ha
  obtain ⟨j, f, hj, rfl⟩ := alF_mem.1 h1
  have A := slot_set hp none j
  rw [hj] at A
  unfold flowA
  rw [show ((j : Int)).toNat = j from rfl, hj]
  by_cases e : p = j
  · rw [if_pos e] at A; cases A
  · rw [if_neg e] at A; rw [← A]
/-- the one that is due first, among the first k. -/
structure BestF (l : List (Option Fl)) (now : Int) (k : Nat) (bi : Int) : Prop where
  no : bi < 0 → bi = -1 ∧ ∀ j f, j < k → slotF l j = some f → now < f.until_
  yes : 0 ≤ bi → ∃ (p : Nat) (fp : Fl), bi = (p : Int) ∧ p < k ∧ slotF l p = some fp ∧ fp.until_ ≤ now ∧ ∀ j f, j < k → slotF l j = some f → f.until_ ≤ now → fp.until_ < f.until_ ∨ (fp.until_ = f.until_ ∧ p ≤ j)
section
variable {l : List (Option Fl)} {now : Int} {k : Nat} {bi : Int}
theorem BestF.zero (l : List (Option Fl)) (now : Int) : BestF l now 0 (-1) := ⟨fun _ => ⟨rfl, fun j f h => by omega⟩, fun h => by omega⟩
theorem BestF.skip (h : BestF l now k bi) (hk : ∀ f, slotF l k = some f → now < f.until_) : BestF l now (k + 1) bi := by
  refine ⟨fun hb => ⟨(h.no hb).1, fun j f hj hf => ?_⟩, fun hb => ?_⟩
  · by_cases e : j = k
    · subst e; exact hk f hf
    · exact (h.no hb).2 j f (by omega) hf
  · obtain ⟨p, fp, h1, h2, h3, h4, h5⟩ := h.yes hb
    refine ⟨p, fp, h1, by omega, h3, h4, fun j f hj hf hd => ?_⟩
    by_cases e : j = k
    · subst e; have := hk f hf; omega
    · exact h5 j f (by omega) hf hd
theorem BestF.first (h : BestF l now k bi) (hb : bi < 0) {f : Fl} (hf : slotF l k = some f) (hd : f.until_ ≤ now) : BestF l now (k + 1) (k : Int) := by
  refine ⟨fun h => by omega, fun _ => ⟨k, f, rfl, by omega, hf, hd, fun j g hj hg hgd => ?_⟩⟩
  by_cases e : j = k
  · subst e; rw [hf] at hg; cases hg; exact .inr ⟨rfl, Nat.le_refl _⟩
  · have := (h.no hb).2 j g (by omega) hg; omega
theorem BestF.less {p : Nat} (h : BestF l now k (p : Int)) {fp f : Fl} (hp : slotF l p = some fp) (hf : slotF l k = some f) (hd : f.until_ ≤ now) (hl : f.until_ < fp.until_) : BestF l now (k + 1) (k : Int) := by
  refine ⟨fun h => by omega, fun _ => ⟨k, f, rfl, by omega, hf, hd, fun j g hj hg hgd => ?_⟩⟩
  by_cases e : j = k
  · subst e; rw [hf] at hg; cases hg; exact .inr ⟨rfl, Nat.le_refl _⟩
  · obtain ⟨p', fp', h1, h2, h3, h4, h5⟩ := h.yes (by omega)
    have : p' = p := by omega
    subst this
    rw [hp] at h3; cases h3
    have := h5 j g (by omega) hg hgd
    omega
theorem BestF.more {p : Nat} (h : BestF l now k (p : Int)) {fp f : Fl} (hp : slotF l p = some fp) (hf : slotF l k = some f) (hl : ¬ f.until_ < fp.until_) : BestF l now (k + 1) (p : Int) := by
  refine ⟨fun h => by omega, fun _ => ?_⟩
  obtain ⟨p', fp', h1, h2, h3, h4, h5⟩ := h.yes (by omega)
  have : p' = p := by omega
  subst this
  rw [hp] at h3; cases h3
  refine ⟨p', fp, rfl, by omega, hp, h4, fun j g hj hg hgd => ?_⟩
  by_cases e : j = k
  · subst e; rw [hf] at hg; cases hg
    rcases Int.lt_trichotomy fp.until_ f.until_ with h | h | h
    · exact .inl h
    · exact .inr ⟨h, by omega⟩
    · exact absurd h hl
  · exact h5 j g (by omega) hg hgd
theorem BestF.end0 (h : BestF l now l.length bi) (hb : bi < 0) : dueA (alF l) now = [] ∧ l.map (stays now) = l := by
  have hn := (h.no hb).2
  constructor
  · refine (due_nil fun a ha => ?_).1
    obtain ⟨j, f, hj, rfl⟩ := alF_mem.1 ha
    exact hn j f (slot_lt hj) hj
  · refine List.ext_getElem (by rw [List.length_map]) fun j h1 h2 => ?_
    rw [List.getElem_map]
    cases e : l[j] with
    | none => rfl
    | some f =>
      have hj : slotF l j = some f := by rw [slot_get h2, e]
      exact stays_some.2 ⟨rfl, hn j f h2 hj⟩
theorem BestF.end1 (h : BestF l now l.length bi) (hb : 0 ≤ bi) : ∃ (p : Nat) (fp : Fl), bi = (p : Int) ∧ p < l.length ∧ slotF l p = some fp ∧ dueA (alF l) now = ⟨(p : Int), fp.until_⟩ :: dueA (alF (l.set p none)) now ∧ (l.set p none).map (stays now) = l.map (stays now) ∧ (alF (l.set p none)).length + 1 = (alF l).length := by
  obtain ⟨p, fp, h1, h2, h3, h4, h5⟩ := h.yes hb
  obtain ⟨l1, l2, e1, e2⟩ := alF_cut h3
  have hle : ∀ a, a ∈ l1 ++ l2 → a.at_ ≤ now → leA ⟨(p : Int), fp.until_⟩ a = true := fun a ha hd => by
    rw [← e2] at ha
    obtain ⟨j, f, hj, rfl⟩ := alF_mem.1 ha
    have A := slot_set h2 none j
    rw [hj] at A
    have hne : p ≠ j := fun e => by rw [if_pos e] at A; cases A
    rw [if_neg hne] at A
    have := h5 j f (slot_lt A.symm) A.symm hd
    rw [leA_iff]
    dsimp only
    omega
  refine ⟨p, fp, h1, h2, h3, ?_, ?_, ?_⟩
  · rw [e1, e2]
    exact due_cons (l1 := l1) (l2 := l2) h4 (fun a ha hd => hle a (List.mem_append_left _ ha) hd) (fun a ha hd => hle a (List.mem_append_right _ ha) hd)
  · rw [List.map_set]
    have : slotF (l.map (stays now)) p = none := by
      rw [slot_map _ _ rfl, h3]
      cases hs : stays now (some fp) with
      | none => rfl
      | some g =>
        have := (stays_some.1 hs)
        obtain ⟨e, hlt⟩ := this
        cases e
        omega
    exact alF_none this
  · rw [e1, e2, List.length_append, List.length_append, List.length_cons]
    omega
end
end Go.Proofs.Ytofpalmghdapkaa

/- Tables of keys without a list: plain mathematics. -/
namespace Go.Proofs.Ytofpalmghdapkaa
open Go.RowKit
set_option linter.unusedVariables false

structure Cl where
  used : Bool
  key : Tp
  num : Int
abbrev cl0 : Cl := ⟨false, tp0, 0⟩
def usedN (l : List Cl) : Nat := l.countP Cl.used
def homeC (k : Tp) (n : Nat) : Nat := (hashT k 0).toNat % n
def atC (l : List Cl) (p : Nat) : Cl := l.getD p cl0
def stopC (l : List Cl) (k : Tp) (p : Nat) : Bool := !(atC l p).used || sameTp (atC l p).key k
/-- how far from its home a key is looked for. -/
def farC (l : List Cl) (k : Tp) : Nat := (List.range l.length).findIdx (fun i => stopC l k ((homeC k l.length + i) % l.length))
def seekP (l : List Cl) (k : Tp) : Nat := (homeC k l.length + farC l k) % l.length
def sizeC (n : Nat) : Bool := [2, 4, 8, 16, 32, 64, 128, 256, 512, 1024].contains n
/-- a right table. -/
structure RightC (l : List Cl) : Prop where
  size : sizeC l.length = true
  room : usedN l < l.length
  cell : ∀ i, i < l.length → ((atC l i).used = true → farC l (atC l i).key < l.length ∧ seekP l (atC l i).key = i ∧ rightT (atC l i).key = true) ∧ ((atC l i).used = false → atC l i = cl0)
theorem atC_get {l : List Cl} {i : Nat} (h : i < l.length) : atC l i = l[i] := by unfold atC; rw [List.getD_eq_getElem?_getD, List.getElem?_eq_getElem h]; rfl
theorem atC_set {l : List Cl} {i : Nat} (h : i < l.length) (c : Cl) (j : Nat) : atC (l.set i c) j = if i = j then c else atC l j := by
  unfold atC
  rw [List.getD_eq_getElem?_getD, List.getD_eq_getElem?_getD, List.getElem?_set]
  split
  · rename_i e
    subst e
    first | rfl | (rw [if_pos h]; rfl)
  · rfl
theorem sizeC_pos {n : Nat} (h : sizeC n = true) : 2 ≤ n ∧ n ≤ 1024 := by
  unfold sizeC at h
  simp at h
  omega
theorem homeC_lt (k : Tp) {n : Nat} (h : 0 < n) : homeC k n < n := Nat.mod_lt _ h
/-- where a search ends. -/
theorem far_is {l : List Cl} {k : Tp} {i : Nat} (hi : i < l.length) (h : stopC l k ((homeC k l.length + i) % l.length) = true) (h0 : ∀ j, j < i → stopC l k ((homeC k l.length + j) % l.length) = false) : farC l k = i := by
  unfold farC
  rw [List.findIdx_eq (by rw [List.length_range]; exact hi)]
  refine ⟨by rw [List.getElem_range]; exact h, fun j hj => ?_⟩
  rw [List.getElem_range]
  exact h0 j hj
theorem far_stop {l : List Cl} {k : Tp} (h : farC l k < l.length) : stopC l k (seekP l k) = true := by
  have := List.findIdx_getElem (xs := List.range l.length) (p := fun i => stopC l k ((homeC k l.length + i) % l.length)) (w := by rw [List.length_range]; exact h)
  rw [List.getElem_range] at this
  exact this
theorem far_go {l : List Cl} {k : Tp} {j : Nat} (h : j < farC l k) : stopC l k ((homeC k l.length + j) % l.length) = false := by
  have hl : j < l.length := Nat.lt_of_lt_of_le h (by unfold farC; have := List.findIdx_le_length (xs := List.range l.length) (p := fun i => stopC l k ((homeC k l.length + i) % l.length)); rwa [List.length_range] at this)
  have := List.not_of_lt_findIdx (xs := List.range l.length) (p := fun i => stopC l k ((homeC k l.length + i) % l.length)) h
  rw [List.getElem_range] at this
  simpa using this
theorem far_le {l : List Cl} {k : Tp} {i : Nat} (hi : i < l.length) (h : stopC l k ((homeC k l.length + i) % l.length) = true) : farC l k ≤ i := by
  apply Nat.le_of_not_lt
  intro hlt
  rw [far_go hlt] at h
  cases h
/-- an empty place ends any search. -/
theorem used_lt {l : List Cl} (h : usedN l < l.length) : ∃ i, i < l.length ∧ (atC l i).used = false := by
  apply Classical.byContradiction
  intro hn
  have : usedN l = l.length := by
    unfold usedN
    rw [List.countP_eq_length]
    intro c hc
    obtain ⟨i, hi, rfl⟩ := List.getElem_of_mem hc
    cases hu : (l[i]).used
    · exact absurd ⟨i, hi, by rw [atC_get hi]; exact hu⟩ hn
    · rfl
  omega
/-- from a place to another one, forward. -/
def distC (n h q : Nat) : Nat := (q + n - h) % n
theorem dist_lt (n h q : Nat) (hn : 0 < n) : distC n h q < n := Nat.mod_lt _ hn
theorem dist_at {n h q : Nat} (hh : h < n) (hq : q < n) : (h + distC n h q) % n = q := by
  unfold distC
  by_cases hle : h ≤ q
  · rw [show q + n - h = (q - h) + n by omega, Nat.add_mod_right, Nat.mod_eq_of_lt (show q - h < n by omega), show h + (q - h) = q by omega, Nat.mod_eq_of_lt hq]
  · rw [Nat.mod_eq_of_lt (show q + n - h < n by omega), show h + (q + n - h) = q + n by omega, Nat.add_mod_right, Nat.mod_eq_of_lt hq]
theorem dist_of {n h i : Nat} (hh : h < n) (hi : i < n) : distC n h ((h + i) % n) = i := by
  unfold distC
  by_cases hle : h + i < n
  · rw [Nat.mod_eq_of_lt hle, show h + i + n - h = i + n by omega, Nat.add_mod_right, Nat.mod_eq_of_lt hi]
  · have e : (h + i) % n = h + i - n := by rw [Nat.mod_eq_sub_mod (by omega), Nat.mod_eq_of_lt (by omega)]
    rw [e, show h + i - n + n - h = i by omega, Nat.mod_eq_of_lt hi]
theorem dist_inj {n h i j : Nat} (hh : h < n) (hi : i < n) (hj : j < n) (e : (h + i) % n = (h + j) % n) : i = j := by
  rw [← dist_of hh hi, e, dist_of hh hj]
theorem far_lt {l : List Cl} (k : Tp) (h : usedN l < l.length) : farC l k < l.length := by
  obtain ⟨i, hi, hu⟩ := used_lt h
  have hh := homeC_lt k (show 0 < l.length by omega)
  have hd := dist_lt l.length (homeC k l.length) i (by omega)
  refine Nat.lt_of_le_of_lt (far_le hd ?_) hd
  rw [dist_at hh hi]
  unfold stopC
  rw [hu]; rfl
/-- the keys are each there once, and no empty place stands between a key and its home. -/
structure GoodC (l : List Cl) : Prop where
  path : ∀ q, q < l.length → (atC l q).used = true → ∀ j, j < distC l.length (homeC (atC l q).key l.length) q → (atC l ((homeC (atC l q).key l.length + j) % l.length)).used = true
  once : ∀ p q, p < l.length → q < l.length → (atC l p).used = true → (atC l q).used = true → (atC l p).key = (atC l q).key → p = q
theorem stop_no {l : List Cl} {k : Tp} {p : Nat} (h1 : (atC l p).used = true) (h2 : (atC l p).key ≠ k) : stopC l k p = false := by
  unfold stopC
  rw [h1]
  cases h : sameTp (atC l p).key k
  · rfl
  · exact absurd ((sameTp_iff _ _).1 h) h2
theorem stop_of {l : List Cl} {k : Tp} {p : Nat} (h : stopC l k p = false) : (atC l p).used = true ∧ (atC l p).key ≠ k := by
  unfold stopC at h
  cases h1 : (atC l p).used
  · rw [h1] at h; cases h
  · rw [h1] at h
    refine ⟨rfl, fun e => ?_⟩
    rw [(sameTp_iff _ _).2 e] at h
    cases h
theorem stop_key {l : List Cl} {k : Tp} {p : Nat} (h : (atC l p).key = k) : stopC l k p = true := by
  unfold stopC
  rw [(sameTp_iff _ _).2 h]
  simp
theorem GoodC.find {l : List Cl} (g : GoodC l) {q : Nat} (hq : q < l.length) (hu : (atC l q).used = true) : farC l (atC l q).key = distC l.length (homeC (atC l q).key l.length) q ∧ seekP l (atC l q).key = q := by
  have hh := homeC_lt (atC l q).key (show 0 < l.length by omega)
  have hd := dist_lt l.length (homeC (atC l q).key l.length) q (by omega)
  have he := dist_at hh hq
  have h1 : farC l (atC l q).key = distC l.length (homeC (atC l q).key l.length) q := by
    refine far_is hd (by rw [he]; exact stop_key rfl) fun j hj => ?_
    refine stop_no (g.path q hq hu j hj) fun e => ?_
    have hp : (homeC (atC l q).key l.length + j) % l.length < l.length := Nat.mod_lt _ (by omega)
    have := g.once _ q hp hq (g.path q hq hu j hj) hu e
    have h3 := dist_of hh (show j < l.length by omega)
    rw [this] at h3
    omega
  exact ⟨h1, by unfold seekP; rw [h1, he]⟩
theorem RightC.good {l : List Cl} (r : RightC l) : GoodC l := by
  refine ⟨fun q hq hu j hj => ?_, fun p q hp hq hup huq e => ?_⟩
  · obtain ⟨h1, h2, _⟩ := (r.cell q hq).1 hu
    have hh := homeC_lt (atC l q).key (show 0 < l.length by omega)
    have h3 := dist_of hh h1
    unfold seekP at h2
    rw [h2] at h3
    exact (stop_of (far_go (by omega))).1
  · have h1 := ((r.cell p hp).1 hup).2.1
    have h2 := ((r.cell q hq).1 huq).2.1
    rw [e] at h1
    exact h1.symm.trans h2
theorem RightC.of {l : List Cl} (h1 : sizeC l.length = true) (h2 : usedN l < l.length) (g : GoodC l) (hr : ∀ i, i < l.length → (atC l i).used = true → rightT (atC l i).key = true) (h0 : ∀ i, i < l.length → (atC l i).used = false → atC l i = cl0) : RightC l :=
  ⟨h1, h2, fun i hi => ⟨fun hu => ⟨far_lt _ h2, (g.find hi hu).2, hr i hi hu⟩, h0 i hi⟩⟩
/-- a key is there. -/
def HasC (l : List Cl) (k : Tp) (n : Int) : Prop := ∃ q, q < l.length ∧ atC l q = ⟨true, k, n⟩
/-- what a search finds in a right table. -/
theorem RightC.seek {l : List Cl} (r : RightC l) (k : Tp) : seekP l k < l.length ∧ ((atC l (seekP l k)).used = true → (atC l (seekP l k)).key = k) ∧ ((atC l (seekP l k)).used = false → ∀ q, q < l.length → (atC l q).used = true → (atC l q).key ≠ k) := by
  have hf := far_lt k r.room
  have hs := far_stop hf
  have hl : seekP l k < l.length := Nat.mod_lt _ (by omega)
  refine ⟨hl, fun hu => ?_, fun hu q hq hq2 e => ?_⟩
  · unfold stopC at hs
    rw [hu] at hs
    exact (sameTp_iff _ _).1 (by simpa using hs)
  · have := (r.good.find hq hq2).2
    rw [e] at this
    rw [this] at hu
    rw [hu] at hq2
    cases hq2
theorem RightC.has {l : List Cl} (r : RightC l) (k : Tp) (n : Int) : HasC l k n ↔ ((atC l (seekP l k)).used = true ∧ (atC l (seekP l k)).num = n) := by
  obtain ⟨hl, h1, h2⟩ := r.seek k
  constructor
  · rintro ⟨q, hq, e⟩
    have hu : (atC l q).used = true := by rw [e]
    have hk : (atC l q).key = k := by rw [e]
    have := (r.good.find hq hu).2
    rw [hk] at this
    rw [this, e]
    exact ⟨rfl, rfl⟩
  · rintro ⟨hu, hn⟩
    refine ⟨_, hl, ?_⟩
    have := h1 hu
    cases hc : atC l (seekP l k)
    rw [hc] at hu hn this
    dsimp only at hu hn this
    rw [hu, hn, this]
theorem used_set {l : List Cl} {i : Nat} (h : i < l.length) (c : Cl) : usedN (l.set i c) + (if (atC l i).used then 1 else 0) = usedN l + (if c.used then 1 else 0) := by
  unfold usedN
  rw [List.countP_set h, atC_get h]
  have : 0 < l.countP Cl.used ∨ (l[i]).used = false := by
    cases hu : (l[i]).used
    · exact .inr rfl
    · exact .inl (List.countP_pos_iff.2 ⟨l[i], List.getElem_mem h, hu⟩)
  cases hu : (l[i]).used <;> cases hc : c.used
  · simp
  · simp
  · rw [hu] at this
    have p : 0 < l.countP Cl.used := by rcases this with h | h; exact h; cases h
    generalize l.countP Cl.used = m at *
    simp
    omega
  · rw [hu] at this
    have p : 0 < l.countP Cl.used := by rcases this with h | h; exact h; cases h
    generalize l.countP Cl.used = m at *
    simp
    omega
end Go.Proofs.Ytofpalmghdapkaa

/- Tables of keys without a list: a key is put; a key is taken out: plain mathematics. -/
namespace Go.Proofs.Ytofpalmghdapkaa
open Go.RowKit
set_option linter.unusedVariables false

theorem RightC.put {l : List Cl} (r : RightC l) {k : Tp} (n : Int) (hk : rightT k = true) (hu : (atC l (seekP l k)).used = false) (hr : usedN l + 1 < l.length) :
    RightC (l.set (seekP l k) ⟨true, k, n⟩) ∧ usedN (l.set (seekP l k) ⟨true, k, n⟩) = usedN l + 1 ∧ ∀ k' n', HasC (l.set (seekP l k) ⟨true, k, n⟩) k' n' ↔ ((k' = k ∧ n' = n) ∨ HasC l k' n') := by
  obtain ⟨hs, _, hno⟩ := r.seek k
  have hno := hno hu
  have hlen : (l.set (seekP l k) ⟨true, k, n⟩).length = l.length := List.length_set
  have hA : ∀ j, atC (l.set (seekP l k) ⟨true, k, n⟩) j = if seekP l k = j then ⟨true, k, n⟩ else atC l j := atC_set hs _
  have hh := homeC_lt k (show 0 < l.length by omega)
  have hf := far_lt k r.room
  have hcnt : usedN (l.set (seekP l k) ⟨true, k, n⟩) = usedN l + 1 := by
    have := used_set hs ⟨true, k, n⟩
    rw [hu] at this
    simpa using this
  have g := r.good
  generalize hl' : l.set (seekP l k) ⟨true, k, n⟩ = l' at *
  have up : ∀ j, (atC l j).used = true → (atC l' j).used = true := fun j h => by
    rw [hA]; split
    · rfl
    · exact h
  have G : GoodC l' := by
    refine ⟨fun q hq hq2 j hj => ?_, fun p q hp hq h1 h2 e => ?_⟩
    · rw [hlen] at hq hj ⊢
      by_cases hqs : seekP l k = q
      · have eq : atC l' q = ⟨true, k, n⟩ := by rw [hA, if_pos hqs]
        rw [eq] at hj ⊢
        dsimp only at hj ⊢
        have hd := dist_of hh hf
        rw [show (homeC k l.length + farC l k) % l.length = q from hqs] at hd
        rw [hd] at hj
        exact up _ (stop_of (far_go hj)).1
      · have eq : atC l' q = atC l q := by rw [hA, if_neg hqs]
        rw [eq] at hq2 hj ⊢
        exact up _ (g.path q hq hq2 j hj)
    · rw [hlen] at hp hq
      rw [hA] at h1 e
      rw [hA q] at h2 e
      by_cases hps : seekP l k = p
      · by_cases hqs : seekP l k = q
        · exact hps.symm.trans hqs
        · rw [if_pos hps, if_neg hqs] at e
          rw [if_neg hqs] at h2
          exact absurd e.symm (hno q hq h2)
      · by_cases hqs : seekP l k = q
        · rw [if_neg hps, if_pos hqs] at e
          rw [if_neg hps] at h1
          exact absurd e (hno p hp h1)
        · rw [if_neg hps] at h1 e
          rw [if_neg hqs] at h2 e
          exact g.once p q hp hq h1 h2 e
  refine ⟨RightC.of (by rw [hlen]; exact r.size) (by rw [hcnt, hlen]; exact hr) G (fun i hi hui => ?_) (fun i hi hui => ?_), hcnt, fun k' n' => ?_⟩
  · rw [hlen] at hi
    rw [hA] at hui ⊢
    split
    · exact hk
    · rename_i h
      rw [if_neg h] at hui
      exact ((r.cell i hi).1 hui).2.2
  · rw [hlen] at hi
    rw [hA] at hui ⊢
    split
    · rename_i h
      rw [if_pos h] at hui
      cases hui
    · rename_i h
      rw [if_neg h] at hui
      exact (r.cell i hi).2 hui
  · constructor
    · rintro ⟨q, hq, e⟩
      rw [hlen] at hq
      rw [hA] at e
      split at e
      · injection e with _ e1 e2
        exact .inl ⟨e1.symm, e2.symm⟩
      · exact .inr ⟨q, hq, e⟩
    · rintro (⟨rfl, rfl⟩ | ⟨q, hq, e⟩)
      · exact ⟨seekP l k', by rw [hlen]; exact hs, by rw [hA, if_pos rfl]⟩
      · refine ⟨q, by rw [hlen]; exact hq, ?_⟩
        rw [hA, if_neg (fun h => by rw [h] at hu; rw [e] at hu; cases hu)]
        exact e

/-- a key that is taken out and put anew. -/
def reputC (l : List Cl) (i : Nat) : List Cl := (l.set i cl0).set (seekP (l.set i cl0) (atC l i).key) (atC l i)
def delF : Nat → List Cl → Nat → List Cl
  | 0, l, _ => l
  | f + 1, l, i => if (atC l i).used then delF f (reputC l i) ((i + 1) % l.length) else l
def takeC (l : List Cl) (at_ : Nat) : List Cl := delF l.length (l.set at_ cl0) ((at_ + 1) % l.length)
/-- all places from m on up to q, told from at, have keys. -/
def RunC (l : List Cl) (n at_ m q : Nat) : Prop := m ≤ distC n at_ q ∧ ∀ o, m ≤ o → o ≤ distC n at_ q → (atC l ((at_ + o) % n)).used = true
/-- while keys are put anew: only the places behind the hole, up to m, may be missed. -/
structure DelI (n at_ m E : Nat) (l : List Cl) : Prop where
  len : l.length = n
  a : at_ < n
  m1 : 1 ≤ m
  e0 : m ≤ E
  e1 : E < n
  emp : (atC l ((at_ + E) % n)).used = false
  path : ∀ q, q < n → (atC l q).used = true → ∀ j, j < distC n (homeC (atC l q).key n) q → (atC l ((homeC (atC l q).key n + j) % n)).used = true ∨ (distC n at_ ((homeC (atC l q).key n + j) % n) < m ∧ RunC l n at_ m q)
  once : ∀ p q, p < n → q < n → (atC l p).used = true → (atC l q).used = true → (atC l p).key = (atC l q).key → p = q
  keys : ∀ q, q < n → (atC l q).used = true → rightT (atC l q).key = true
  zero : ∀ q, q < n → (atC l q).used = false → atC l q = cl0
theorem DelI.end {n at_ m E : Nat} {l : List Cl} (h : DelI n at_ m E l) (hu : (atC l ((at_ + m) % n)).used = false) : GoodC l := by
  refine ⟨fun q hq hq2 j hj => ?_, fun p q hp hq => by rw [h.len] at hp hq; exact h.once p q hp hq⟩
  rw [h.len] at hq hj ⊢
  rcases h.path q hq hq2 j hj with k | ⟨_, k1, k2⟩
  · exact k
  · rw [k2 m (Nat.le_refl _) k1] at hu
    cases hu
theorem add_mod3 (a b c n : Nat) : ((a + b) % n + c) % n = (a + (b + c)) % n := by rw [Nat.mod_add_mod, Nat.add_assoc]
/-- a right table whose key was taken out. -/
theorem RightC.hole {l : List Cl} (r : RightC l) {at_ : Nat} (ha : at_ < l.length) (hu : (atC l at_).used = true) : ∃ E, DelI l.length at_ 1 E (l.set at_ cl0) := by
  obtain ⟨i, hi, hiu⟩ := used_lt r.room
  have g := r.good
  have hA : ∀ j, atC (l.set at_ cl0) j = if at_ = j then cl0 else atC l j := atC_set ha _
  have hne : at_ ≠ i := fun e => by rw [← e, hu] at hiu; cases hiu
  have hd := dist_at ha hi
  have hdl := dist_lt l.length at_ i (by omega)
  have hd0 : 1 ≤ distC l.length at_ i := by
    rcases Nat.eq_zero_or_pos (distC l.length at_ i) with h0 | h0
    · rw [h0, Nat.add_zero, Nat.mod_eq_of_lt ha] at hd; exact absurd hd hne
    · exact h0
  refine ⟨distC l.length at_ i, List.length_set, ha, Nat.le_refl _, hd0, hdl, by rw [hd, hA, if_neg hne]; exact hiu, fun q hq hq2 j hj => ?_, fun p q hp hq h1 h2 e => ?_, fun q hq hq2 => ?_, fun q hq hq2 => ?_⟩
  · have hqa : at_ ≠ q := fun e => by rw [hA, if_pos e] at hq2; cases hq2
    have eq : atC (l.set at_ cl0) q = atC l q := by rw [hA, if_neg hqa]
    rw [eq] at hq2 hj ⊢
    have hh := homeC_lt (atC l q).key (show 0 < l.length by omega)
    have hdq := dist_at hh hq
    have hdl2 := dist_lt l.length (homeC (atC l q).key l.length) q (by omega)
    generalize hH : homeC (atC l q).key l.length = H at *
    have hP := g.path q hq hq2
    rw [hH] at hP
    generalize hD : distC l.length H q = D at *
    by_cases hr : at_ = (H + j) % l.length
    · right
      have hdq2 : distC l.length at_ q = D - j := by
        have : (at_ + (D - j)) % l.length = q := by rw [hr, add_mod3, show j + (D - j) = D by omega]; exact hdq
        rw [← this]
        exact dist_of ha (by omega)
      refine ⟨?_, by rw [hdq2]; omega, fun o o1 o2 => ?_⟩
      · rw [← hr]
        have : distC l.length at_ at_ = 0 := by
          have := dist_of ha (show 0 < l.length by omega)
          rwa [Nat.add_zero, Nat.mod_eq_of_lt ha] at this
        omega
      · rw [hdq2] at o2
        have hne2 : at_ ≠ (at_ + o) % l.length := fun e => by
          have h1 := dist_of ha (show o < l.length by omega)
          have h2 := dist_of ha (show 0 < l.length by omega)
          rw [Nat.add_zero, Nat.mod_eq_of_lt ha] at h2
          rw [← e, h2] at h1
          omega
        rw [hA, if_neg hne2]
        have e3 : (at_ + o) % l.length = (H + (j + o)) % l.length := by rw [hr, add_mod3]
        rw [e3]
        by_cases ho : j + o < D
        · exact hP _ ho
        · rw [show j + o = D by omega, hdq]; exact hq2
    · left
      rw [hA, if_neg hr]
      exact hP j hj
  · rw [hA] at h1 e
    rw [hA q] at h2 e
    by_cases hpa : at_ = p
    · rw [if_pos hpa] at h1; cases h1
    · by_cases hqa : at_ = q
      · rw [if_pos hqa] at h2; cases h2
      · rw [if_neg hpa] at h1 e
        rw [if_neg hqa] at h2 e
        exact g.once p q hp hq h1 h2 e
  · rw [hA] at hq2 ⊢
    by_cases hqa : at_ = q
    · rw [if_pos hqa] at hq2; cases hq2
    · rw [if_neg hqa] at hq2 ⊢
      exact ((r.cell q hq).1 hq2).2.2
  · rw [hA] at hq2 ⊢
    by_cases hqa : at_ = q
    · rw [if_pos hqa]
    · rw [if_neg hqa] at hq2 ⊢
      exact (r.cell q hq).2 hq2
end Go.Proofs.Ytofpalmghdapkaa

/- Tables of keys without a list: what follows a hole is put anew: plain mathematics. -/
namespace Go.Proofs.Ytofpalmghdapkaa
open Go.RowKit
set_option linter.unusedVariables false

theorem DelI.step {n at_ m E : Nat} {l : List Cl} (h : DelI n at_ m E l) (hu : (atC l ((at_ + m) % n)).used = true) :
    DelI n at_ (m + 1) E (reputC l ((at_ + m) % n)) ∧ usedN (reputC l ((at_ + m) % n)) = usedN l ∧ ∀ k x, HasC (reputC l ((at_ + m) % n)) k x ↔ HasC l k x := by
  have hn : 0 < n := by have := h.a; omega
  have hlen := h.len
  have ha := h.a
  have hmE : m < E := by
    rcases Nat.lt_or_ge m E with k | k
    · exact k
    · have : m = E := by have := h.e0; omega
      rw [this, h.emp] at hu; cases hu
  have hE := h.e1
  have hmi := dist_of ha (show m < n by omega)
  have hi : (at_ + m) % n < n := Nat.mod_lt _ hn
  generalize hI : (at_ + m) % n = i at *
  have A1 : ∀ j, atC (l.set i cl0) j = if i = j then cl0 else atC l j := atC_set (by rw [hlen]; exact hi) _
  have len1 : (l.set i cl0).length = n := by rw [List.length_set]; exact hlen
  have u1 := used_set (show i < l.length by rw [hlen]; exact hi) cl0
  unfold reputC
  generalize hL1 : l.set i cl0 = l1 at *
  obtain ⟨c, hc⟩ : ∃ c, atC l i = c := ⟨_, rfl⟩
  rw [hc] at hu ⊢
  have hh := homeC_lt c.key hn
  have hdl := dist_lt n (homeC c.key n) i hn
  have hda := dist_at hh hi
  have st : stopC l1 c.key i = true := by unfold stopC; rw [A1, if_pos rfl]; rfl
  have hfar : farC l1 c.key ≤ distC n (homeC c.key n) i := far_le (by rw [len1]; exact hdl) (by rw [len1, hda]; exact st)
  have hj0 : farC l1 c.key < l1.length := by rw [len1]; omega
  have hstop := far_stop hj0
  have hgo : ∀ j, j < farC l1 c.key → (atC l1 ((homeC c.key n + j) % n)).used = true := fun j hj => by
    have := (stop_of (far_go hj)).1
    rwa [len1] at this
  have hpe : seekP l1 c.key = (homeC c.key n + farC l1 c.key) % n := by unfold seekP; rw [len1]
  have hp : seekP l1 c.key < n := by rw [hpe]; exact Nat.mod_lt _ hn
  have hdp : distC n (homeC c.key n) (seekP l1 c.key) = farC l1 c.key := by rw [hpe]; exact dist_of hh (by omega)
  have pz : seekP l1 c.key = i ∨ (seekP l1 c.key ≠ i ∧ (atC l (seekP l1 c.key)).used = false) := by
    by_cases hpi : seekP l1 c.key = i
    · exact .inl hpi
    · refine .inr ⟨hpi, ?_⟩
      have e1 : atC l1 (seekP l1 c.key) = atC l (seekP l1 c.key) := by rw [A1, if_neg (fun e => hpi e.symm)]
      unfold stopC at hstop
      rw [e1] at hstop
      cases hq : (atC l (seekP l1 c.key)).used
      · rfl
      · rw [hq] at hstop
        have hk : (atC l (seekP l1 c.key)).key = c.key := (sameTp_iff _ _).1 (by simpa using hstop)
        exact absurd (h.once _ _ hp hi hq (by rw [hc]; exact hu) (by rw [hc]; exact hk)) hpi
  have pm : distC n at_ (seekP l1 c.key) ≤ m := by
    rcases pz with e | ⟨e, eu⟩
    · rw [e, hmi]; exact Nat.le_refl _
    · have hlt : farC l1 c.key < distC n (homeC c.key n) i := by
        rcases Nat.lt_or_ge (farC l1 c.key) (distC n (homeC c.key n) i) with k | k
        · exact k
        · have : farC l1 c.key = distC n (homeC c.key n) i := by omega
          rw [hpe, this, hda] at e; exact absurd rfl e
      have := h.path i hi (by rw [hc]; exact hu) (farC l1 c.key) (by rw [hc]; exact hlt)
      rw [hc, ← hpe, eu] at this
      rcases this with k | k
      · cases k
      · omega
  have pu : (atC l1 (seekP l1 c.key)).used = false := by
    rcases pz with e | ⟨e, eu⟩
    · rw [e, A1, if_pos rfl]
    · rw [A1, if_neg (fun k => e k.symm)]; exact eu
  have A2 : ∀ j, atC (l1.set (seekP l1 c.key) c) j = if seekP l1 c.key = j then c else atC l1 j := atC_set (by rw [len1]; exact hp) _
  have len2 : (l1.set (seekP l1 c.key) c).length = n := by rw [List.length_set]; exact len1
  have u2 := used_set (show seekP l1 c.key < l1.length by rw [len1]; exact hp) c
  generalize hL2 : l1.set (seekP l1 c.key) c = l2 at *
  generalize hP : seekP l1 c.key = p at *
  -- cells of the new table
  have B : ∀ j, atC l2 j = if p = j then c else if i = j then cl0 else atC l j := fun j => by rw [A2, A1]
  have up1 : ∀ j, (atC l1 j).used = true → (atC l2 j).used = true := fun j hj => by
    rw [A2]; split
    · exact hu
    · exact hj
  have up : ∀ j, j ≠ i → (atC l j).used = true → (atC l2 j).used = true := fun j hj hj2 => up1 j (by rw [A1, if_neg (fun e => hj e.symm)]; exact hj2)
  have old : ∀ j, p ≠ j → (atC l2 j).used = true → i ≠ j ∧ atC l2 j = atC l j := fun j hj hj2 => by
    rw [B, if_neg hj] at hj2 ⊢
    by_cases hij : i = j
    · rw [if_pos hij] at hj2; cases hj2
    · exact ⟨hij, if_neg hij⟩
  have run : ∀ q, i ≠ q → q < n → RunC l n at_ m q → RunC l2 n at_ (m + 1) q := fun q hiq hq ⟨r1, r2⟩ => by
    have hne : distC n at_ q ≠ m := fun e => by
      have := dist_at ha hq
      rw [e, hI] at this
      exact hiq this
    refine ⟨by omega, fun o o1 o2 => up _ (fun e => ?_) (r2 o (by omega) o2)⟩
    have h1 := dist_of ha (show o < n by have := dist_lt n at_ q hn; omega)
    rw [e, hmi] at h1
    omega
  refine ⟨⟨len2, ha, by omega, by omega, hE, ?_, fun q hq hq2 j hj => ?_, fun q r hq hr hq2 hr2 e => ?_, fun q hq hq2 => ?_, fun q hq hq2 => ?_⟩, ?_, fun k x => ?_⟩
  · have h1 := dist_of ha hE
    have n1 : p ≠ (at_ + E) % n := fun e => by rw [← e] at h1; omega
    have n2 : i ≠ (at_ + E) % n := fun e => by rw [← e, hmi] at h1; omega
    rw [B, if_neg n1, if_neg n2]
    exact h.emp
  · by_cases hpq : p = q
    · have eq : atC l2 q = c := by rw [B, if_pos hpq]
      rw [eq] at hj ⊢
      rw [← hpq, hdp] at hj
      exact .inl (up1 _ (hgo j hj))
    · obtain ⟨hiq, eq⟩ := old q hpq hq2
      rw [eq] at hq2 hj ⊢
      rcases h.path q hq hq2 j hj with k | ⟨k1, k2⟩
      · by_cases hri : (homeC (atC l q).key n + j) % n = i
        · by_cases hpi : p = i
          · left
            rw [B, if_pos (hpi.trans hri.symm)]
            exact hu
          · right
            refine ⟨by rw [hri, hmi]; omega, ?_⟩
            by_cases hR : RunC l n at_ m q
            · exact run q hiq hq hR
            · exfalso
              have hall : ∀ j', j' < distC n (homeC (atC l q).key n) q → (atC l ((homeC (atC l q).key n + j') % n)).used = true := fun j' hj' => by
                rcases h.path q hq hq2 j' hj' with k | k
                · exact k
                · exact absurd k.2 hR
              have hhq := homeC_lt (atC l q).key hn
              have hdq := dist_at hhq hq
              have hdq2 := dist_lt n (homeC (atC l q).key n) q hn
              generalize homeC (atC l q).key n = H at *
              generalize distC n H q = D at *
              have hw : ∀ o, o ≤ D - j → (atC l ((at_ + (m + o)) % n)).used = true := fun o ho => by
                have e3 : (at_ + (m + o)) % n = (H + (j + o)) % n := by rw [← add_mod3, hI, ← hri, add_mod3]
                rw [e3]
                by_cases hlt : j + o < D
                · exact hall _ hlt
                · rw [show j + o = D by omega, hdq]; exact hq2
              by_cases hmt : m + (D - j) < n
              · have e4 : (at_ + (m + (D - j))) % n = q := by
                  rw [← add_mod3, hI, ← hri, add_mod3, show j + (D - j) = D by omega]; exact hdq
                have e5 := dist_of ha hmt
                rw [e4] at e5
                refine hR ⟨by omega, fun o o1 o2 => ?_⟩
                have := hw (o - m) (by omega)
                rwa [show m + (o - m) = o by omega] at this
              · have := hw (E - m) (by omega)
                rw [show m + (E - m) = E by omega, h.emp] at this
                cases this
        · exact .inl (up _ hri k)
      · exact .inr ⟨by omega, run q hiq hq k2⟩
  · by_cases hpq : p = q
    · by_cases hpr : p = r
      · exact hpq.symm.trans hpr
      · obtain ⟨hir, er⟩ := old r hpr hr2
        have eq : atC l2 q = c := by rw [B, if_pos hpq]
        rw [eq, er] at e
        rw [er] at hr2
        exact absurd (h.once i r hi hr (by rw [hc]; exact hu) hr2 (by rw [hc]; exact e)) hir
    · obtain ⟨hiq, eq⟩ := old q hpq hq2
      by_cases hpr : p = r
      · have er : atC l2 r = c := by rw [B, if_pos hpr]
        rw [eq, er] at e
        rw [eq] at hq2
        exact absurd (h.once i q hi hq (by rw [hc]; exact hu) hq2 (by rw [hc]; exact e.symm)) hiq
      · obtain ⟨hir, er⟩ := old r hpr hr2
        rw [eq, er] at e
        rw [eq] at hq2
        rw [er] at hr2
        exact h.once q r hq hr hq2 hr2 e
  · by_cases hpq : p = q
    · have eq : atC l2 q = c := by rw [B, if_pos hpq]
      rw [eq, ← hc]
      exact h.keys i hi (by rw [hc]; exact hu)
    · obtain ⟨hiq, eq⟩ := old q hpq hq2
      rw [eq] at hq2 ⊢
      exact h.keys q hq hq2
  · by_cases hpq : p = q
    · rw [B, if_pos hpq, hu] at hq2; cases hq2
    · rw [B, if_neg hpq] at hq2 ⊢
      by_cases hiq : i = q
      · rw [if_pos hiq]
      · rw [if_neg hiq] at hq2 ⊢
        exact h.zero q hq hq2
  · rw [hc, hu] at u1
    rw [pu, hu] at u2
    simp at u1 u2
    omega
  · constructor
    · rintro ⟨q, hq, e⟩
      rw [len2] at hq
      by_cases hpq : p = q
      · rw [B, if_pos hpq] at e
        exact ⟨i, by rw [hlen]; exact hi, by rw [hc]; exact e⟩
      · obtain ⟨hiq, eq⟩ := old q hpq (by rw [e])
        exact ⟨q, by rw [hlen]; exact hq, by rw [← eq]; exact e⟩
    · rintro ⟨q, hq, e⟩
      rw [hlen] at hq
      by_cases hiq : i = q
      · rw [← hiq, hc] at e
        exact ⟨p, by rw [len2]; exact hp, by rw [B, if_pos rfl]; exact e⟩
      · by_cases hpq : p = q
        · exfalso
          rcases pz with e' | ⟨_, eu⟩
          · exact hiq (e'.symm.trans hpq)
          · rw [hpq, e] at eu; cases eu
        · exact ⟨q, by rw [len2]; exact hq, by rw [B, if_neg hpq, if_neg hiq]; exact e⟩
end Go.Proofs.Ytofpalmghdapkaa

/- Tables of keys without a list: the document's answers; a key is taken out; put and taken out at once: plain mathematics. -/
namespace Go.Proofs.Ytofpalmghdapkaa
open Go.RowKit
set_option linter.unusedVariables false

theorem DelI.run {n at_ E : Nat} : ∀ (f m : Nat) (l : List Cl), DelI n at_ m E l → E - m < f →
    ∃ l' m', delF f l ((at_ + m) % n) = l' ∧ DelI n at_ m' E l' ∧ GoodC l' ∧ usedN l' = usedN l ∧ ∀ k x, HasC l' k x ↔ HasC l k x
  | 0, m, l, h, hf => by omega
  | f + 1, m, l, h, hf => by
    unfold delF
    cases hu : (atC l ((at_ + m) % n)).used
    · rw [if_neg (by simp)]
      exact ⟨l, m, rfl, h, h.end hu, rfl, fun _ _ => Iff.rfl⟩
    · rw [if_pos rfl]
      obtain ⟨h1, h2, h3⟩ := h.step hu
      have hmE : m < E := by
        rcases Nat.lt_or_ge m E with k | k
        · exact k
        · have : m = E := by have := h.e0; omega
          rw [this, h.emp] at hu; cases hu
      obtain ⟨l', m', e1, e2, e3, e4, e5⟩ := DelI.run f (m + 1) _ h1 (by omega)
      rw [h.len, add_mod3]
      exact ⟨l', m', e1, e2, e3, e4.trans h2, fun k x => (e5 k x).trans (h3 k x)⟩
/-- a key is taken out of a right table. -/
theorem RightC.take {l : List Cl} (r : RightC l) {at_ : Nat} (ha : at_ < l.length) (hu : (atC l at_).used = true) :
    RightC (takeC l at_) ∧ (takeC l at_).length = l.length ∧ usedN (takeC l at_) + 1 = usedN l ∧ ∀ k x, HasC (takeC l at_) k x ↔ (HasC l k x ∧ k ≠ (atC l at_).key) := by
  obtain ⟨E, h⟩ := r.hole ha hu
  have hE := h.e1
  obtain ⟨l', m', e1, e2, e3, e4, e5⟩ := DelI.run l.length 1 _ h (by omega)
  have ht : takeC l at_ = l' := e1
  rw [ht]
  have hlen := e2.len
  have u1 := used_set ha cl0
  rw [hu] at u1
  simp at u1
  have hroom := r.room
  refine ⟨RightC.of (by rw [hlen]; exact r.size) (by rw [hlen]; omega) e3 (fun i hi => by rw [hlen] at hi; exact e2.keys i hi) (fun i hi => by rw [hlen] at hi; exact e2.zero i hi), hlen, by omega, fun k x => (e5 k x).trans ?_⟩
  have hA : ∀ j, atC (l.set at_ cl0) j = if at_ = j then cl0 else atC l j := atC_set ha _
  constructor
  · rintro ⟨q, hq, e⟩
    rw [List.length_set] at hq
    by_cases hqa : at_ = q
    · rw [hA, if_pos hqa] at e; cases e
    · rw [hA, if_neg hqa] at e
      refine ⟨⟨q, hq, e⟩, fun hk => hqa ?_⟩
      exact r.good.once _ _ ha hq hu (by rw [e]) (by rw [e]; exact hk.symm)
  · rintro ⟨⟨q, hq, e⟩, hk⟩
    have hqa : at_ ≠ q := fun h => hk (by rw [h, e])
    exact ⟨q, by rw [List.length_set]; exact hq, by rw [hA, if_neg hqa]; exact e⟩
/-- in a right table what is put anew stays. -/
theorem RightC.reput {l : List Cl} (r : RightC l) {i : Nat} (hi : i < l.length) (hu : (atC l i).used = true) : reputC l i = l := by
  have g := r.good
  have A1 : ∀ j, atC (l.set i cl0) j = if i = j then cl0 else atC l j := atC_set hi _
  have len1 : (l.set i cl0).length = l.length := List.length_set
  have hh := homeC_lt (atC l i).key (show 0 < l.length by omega)
  have hd := dist_lt l.length (homeC (atC l i).key l.length) i (by omega)
  have he := dist_at hh hi
  have hf : farC (l.set i cl0) (atC l i).key = distC l.length (homeC (atC l i).key l.length) i := by
    refine far_is (by rw [len1]; exact hd) ?_ fun j hj => ?_
    · rw [len1, he]
      unfold stopC
      rw [A1, if_pos rfl]; rfl
    · rw [len1]
      have hu2 := g.path i hi hu j hj
      have hp : (homeC (atC l i).key l.length + j) % l.length < l.length := Nat.mod_lt _ (by omega)
      have hne : i ≠ (homeC (atC l i).key l.length + j) % l.length := fun e => by
        have h3 := dist_of hh (show j < l.length by omega)
        rw [← e] at h3
        omega
      refine stop_no (by rw [A1, if_neg hne]; exact hu2) fun e => ?_
      rw [A1, if_neg hne] at e
      exact hne (g.once _ _ hp hi hu2 hu e).symm
  have hs : seekP (l.set i cl0) (atC l i).key = i := by unfold seekP; rw [hf, len1, he]
  unfold reputC
  rw [hs, List.set_set, atC_get hi, List.set_getElem_self]
theorem RightC.delF {l : List Cl} (r : RightC l) : ∀ (f i : Nat), i < l.length → delF f l i = l
  | 0, i, _ => rfl
  | f + 1, i, hi => by
    unfold Go.Proofs.Ytofpalmghdapkaa.delF
    split
    · rename_i hu
      rw [r.reput hi hu]
      exact RightC.delF r f _ (Nat.mod_lt _ (by omega))
    · rfl
/-- put and taken out at once. -/
theorem RightC.back {l : List Cl} (r : RightC l) {k : Tp} (n : Int) (hu : (atC l (seekP l k)).used = false) : takeC (l.set (seekP l k) ⟨true, k, n⟩) (seekP l k) = l := by
  obtain ⟨hs, _, _⟩ := r.seek k
  unfold takeC
  have h0 := (r.cell _ hs).2 hu
  rw [List.set_set, List.length_set]
  have e : l.set (seekP l k) cl0 = l := by
    rw [← h0, atC_get hs, List.set_getElem_self]
  rw [e]
  exact r.delF _ _ (Nat.mod_lt _ (by omega))
/-- the document's answers. -/
def sameCl (a b : Cl) : Bool := a.used == b.used && (sameTp a.key b.key && a.num == b.num)
theorem sameCl_iff (a b : Cl) : sameCl a b = true ↔ a = b := by
  cases a; cases b
  simp [sameCl, sameTp_iff]
def cellOk (l : List Cl) (i : Nat) : Bool := if (atC l i).used then (seekP l (atC l i).key == i && rightT (atC l i).key) else sameCl (atC l i) cl0
def rightCB (l : List Cl) : Bool := sizeC l.length && (decide (usedN l < l.length) && (List.range l.length).all (cellOk l))
theorem rightCB_iff (l : List Cl) : rightCB l = true ↔ RightC l := by
  unfold rightCB
  rw [Bool.and_eq_true, Bool.and_eq_true, decide_eq_true_eq, List.all_eq_true]
  constructor
  · rintro ⟨h1, h2, h3⟩
    refine ⟨h1, h2, fun i hi => ?_⟩
    have := h3 i (List.mem_range.2 hi)
    unfold cellOk at this
    refine ⟨fun hu => ?_, fun hu => ?_⟩
    · rw [if_pos hu, Bool.and_eq_true, beq_iff_eq] at this
      exact ⟨far_lt _ h2, this.1, this.2⟩
    · rw [if_neg (by rw [hu]; simp)] at this
      exact (sameCl_iff _ _).1 this
  · rintro ⟨h1, h2, h3⟩
    refine ⟨h1, h2, fun i hi => ?_⟩
    have hi := List.mem_range.1 hi
    unfold cellOk
    cases hu : (atC l i).used
    · rw [if_neg (by simp)]
      exact (sameCl_iff _ _).2 ((h3 i hi).2 hu)
    · rw [if_pos rfl, Bool.and_eq_true, beq_iff_eq]
      exact ((h3 i hi).1 hu).2
def getC (l : List Cl) (k : Tp) : Int × Bool := if rightCB l then ((atC l (seekP l k)).num, (atC l (seekP l k)).used) else (0, false)
def putC (l : List Cl) (k : Tp) (n : Int) : List Cl × Int :=
  if (rightCB l && rightT k) = false then (l, 1)
  else if (atC l (seekP l k)).used then (l, 10)
  else if l.length ≤ usedN l + 1 then (l, 8)
  else (l.set (seekP l k) ⟨true, k, n⟩, 0)
def delC (l : List Cl) (k : Tp) : List Cl × Int :=
  if rightCB l = false then (l, 1)
  else if (atC l (seekP l k)).used = false then (l, 9)
  else (takeC l (seekP l k), 0)
def newC (n : Int) : List Cl × Int := if 0 ≤ n ∧ sizeC n.toNat = true then (List.replicate n.toNat cl0, 0) else ([], 1)
theorem right_new {n : Nat} (h : sizeC n = true) : RightC (List.replicate n cl0) ∧ usedN (List.replicate n cl0) = 0 ∧ ∀ k x, ¬ HasC (List.replicate n cl0) k x := by
  have hp := sizeC_pos h
  have ha : ∀ i, atC (List.replicate n cl0) i = cl0 := fun i => by
    unfold atC
    rw [List.getD_eq_getElem?_getD, List.getElem?_replicate]
    split <;> rfl
  have hu : usedN (List.replicate n cl0) = 0 := by
    unfold usedN
    rw [List.countP_eq_zero]
    intro c hc
    rw [List.eq_of_mem_replicate hc]; decide
  refine ⟨⟨by rw [List.length_replicate]; exact h, by rw [hu, List.length_replicate]; omega, fun i _ => ⟨fun k => (by rw [ha] at k; cases k), fun _ => ha i⟩⟩, hu, fun k x ⟨q, _, e⟩ => by rw [ha] at e; cases e⟩
end Go.Proofs.Ytofpalmghdapkaa

/- Tables of keys without a list: what a law sees of them; puts and deletes as a list: plain mathematics. -/
namespace Go.Proofs.Ytofpalmghdapkaa
open Go.RowKit
set_option linter.unusedVariables false

theorem rightCB_of {l : List Cl} (r : RightC l) : rightCB l = true := (rightCB_iff l).2 r
/-- a search in a right table. -/
theorem seek_has {l : List Cl} (r : RightC l) {k : Tp} {n : Int} (h : HasC l k n) : (atC l (seekP l k)).used = true ∧ atC l (seekP l k) = ⟨true, k, n⟩ := by
  obtain ⟨hu, hn⟩ := (r.has k n).1 h
  have hk := (r.seek k).2.1 hu
  refine ⟨hu, ?_⟩
  cases hc : atC l (seekP l k)
  rw [hc] at hu hn hk
  dsimp only at hu hn hk
  rw [hu, hn, hk]
theorem seek_not {l : List Cl} (r : RightC l) {k : Tp} (h : ∀ n, ¬ HasC l k n) : (atC l (seekP l k)).used = false := by
  cases hu : (atC l (seekP l k)).used
  · rfl
  · exact absurd ((r.has k _).2 ⟨hu, rfl⟩) (h _)
theorem get_has {l : List Cl} (r : RightC l) {k : Tp} {n : Int} (h : HasC l k n) : getC l k = (n, true) := by
  unfold getC
  rw [if_pos (rightCB_of r), (seek_has r h).2]
theorem get_not {l : List Cl} (r : RightC l) {k : Tp} (h : ∀ n, ¬ HasC l k n) : getC l k = (0, false) := by
  unfold getC
  have hu := seek_not r h
  rw [if_pos (rightCB_of r), (r.cell _ (r.seek k).1).2 hu]
/-- what is put. -/
structure PutOk (l : List Cl) (k : Tp) (n : Int) (T : List Cl) : Prop where
  old : RightC l
  key : rightT k = true
  free : (atC l (seekP l k)).used = false
  right : RightC T
  len : T.length = l.length
  used : usedN T = usedN l + 1
  room : usedN l + 1 < l.length
  has : ∀ k' n', HasC T k' n' ↔ ((k' = k ∧ n' = n) ∨ HasC l k' n')
  is : T = l.set (seekP l k) ⟨true, k, n⟩
  seek : seekP T k = seekP l k
theorem put_ok {l : List Cl} (r : RightC l) {k : Tp} (n : Int) (hk : rightT k = true) (hu : (atC l (seekP l k)).used = false) (hr : usedN l + 1 < l.length) : putC l k n = (l.set (seekP l k) ⟨true, k, n⟩, 0) ∧ PutOk l k n (l.set (seekP l k) ⟨true, k, n⟩) := by
  obtain ⟨r1, r2, r3⟩ := r.put n hk hu hr
  refine ⟨?_, r, hk, hu, r1, List.length_set, r2, hr, r3, rfl, ?_⟩
  · unfold putC
    rw [rightCB_of r, hk, hu, if_neg (by decide), if_neg (by decide), if_neg (by omega)]
  · have hs := (r.seek k).1
    have hc : atC (l.set (seekP l k) ⟨true, k, n⟩) (seekP l k) = ⟨true, k, n⟩ := by rw [atC_set hs, if_pos rfl]
    have := (r1.good.find (by rw [List.length_set]; exact hs) (by rw [hc])).2
    rw [hc] at this
    exact this
theorem put_cases (l : List Cl) (k : Tp) (n : Int) : (∃ e, putC l k n = (l, e) ∧ (e = 1 ∨ e = 10 ∨ e = 8)) ∨ (∃ T, putC l k n = (T, 0) ∧ PutOk l k n T) := by
  by_cases h1 : (rightCB l && rightT k) = false
  · exact .inl ⟨1, by unfold putC; rw [if_pos h1], .inl rfl⟩
  · have h2 : rightCB l = true ∧ rightT k = true := by
      cases ha : rightCB l <;> cases hb : rightT k <;> simp_all
    have r := (rightCB_iff l).1 h2.1
    cases hu : (atC l (seekP l k)).used
    · by_cases hr : l.length ≤ usedN l + 1
      · exact .inl ⟨8, by unfold putC; rw [if_neg h1, hu, if_neg (by decide), if_pos hr], .inr (.inr rfl)⟩
      · obtain ⟨p1, p2⟩ := put_ok r n h2.2 hu (by omega)
        exact .inr ⟨_, p1, p2⟩
    · exact .inl ⟨10, by unfold putC; rw [if_neg h1, if_pos hu], .inr (.inl rfl)⟩
/-- put and taken out at once. -/
theorem PutOk.back {l T : List Cl} {k : Tp} {n : Int} (h : PutOk l k n T) : delC T k = (l, 0) ∧ getC l k = (0, false) := by
  have hs := (h.old.seek k).1
  have hc : atC T (seekP l k) = ⟨true, k, n⟩ := by rw [h.is, atC_set hs, if_pos rfl]
  constructor
  · unfold delC
    rw [rightCB_of h.right, if_neg (by decide), h.seek, hc, if_neg (by simp)]
    have := h.old.back n h.free
    rw [← h.is] at this
    rw [this]
  · refine get_not h.old fun m hm => ?_
    have := (seek_has h.old hm).1
    rw [h.free] at this
    cases this
theorem PutOk.get {l T : List Cl} {k : Tp} {n : Int} (h : PutOk l k n T) : getC T k = (n, true) := get_has h.right ((h.has _ _).2 (.inl ⟨rfl, rfl⟩))
/-- what is taken out. -/
structure DelOk (l : List Cl) (k : Tp) (T : List Cl) : Prop where
  old : RightC l
  there : ∃ n, HasC l k n
  right : RightC T
  len : T.length = l.length
  used : usedN T + 1 = usedN l
  has : ∀ k' n', HasC T k' n' ↔ (HasC l k' n' ∧ k' ≠ k)
theorem del_ok {l : List Cl} (r : RightC l) {k : Tp} (hu : (atC l (seekP l k)).used = true) : delC l k = (takeC l (seekP l k), 0) ∧ DelOk l k (takeC l (seekP l k)) := by
  obtain ⟨r1, r2, r3, r4⟩ := r.take (r.seek k).1 hu
  have hk := (r.seek k).2.1 hu
  rw [hk] at r4
  refine ⟨?_, r, ⟨_, (r.has k _).2 ⟨hu, rfl⟩⟩, r1, r2, r3, r4⟩
  unfold delC
  rw [rightCB_of r, if_neg (by decide), hu, if_neg (by decide)]
theorem del_cases (l : List Cl) (k : Tp) : (∃ e, delC l k = (l, e) ∧ (e = 1 ∨ e = 9)) ∨ (∃ T, delC l k = (T, 0) ∧ DelOk l k T) := by
  cases h1 : rightCB l
  · exact .inl ⟨1, by unfold delC; rw [if_pos h1], .inl rfl⟩
  · have r := (rightCB_iff l).1 h1
    cases hu : (atC l (seekP l k)).used
    · exact .inl ⟨9, by unfold delC; rw [h1, if_neg (by decide), if_pos hu], .inr rfl⟩
    · obtain ⟨p1, p2⟩ := del_ok r hu
      exact .inr ⟨_, p1, p2⟩
/-- a table has what a list says. -/
structure MapI (t : List Cl) (H : List Cl) : Prop where
  right : RightC t
  used : usedN t = H.length
  has : ∀ k n, HasC t k n ↔ ∃ c ∈ H, c.key = k ∧ c.num = n
  once : H.Pairwise (fun a b => a.key ≠ b.key)
/-- where a key stands in the list; none: -1. -/
def posK (H : List Cl) (k : Tp) : Int := match H.findIdx? (fun c => sameTp c.key k) with
  | some i => i
  | none => -1
theorem pos_none {H : List Cl} {k : Tp} (h : posK H k < 0) : ∀ c ∈ H, c.key ≠ k := by
  unfold posK at h
  split at h
  · omega
  · rename_i hn
    intro c hc e
    have := List.findIdx?_eq_none_iff.1 hn c hc
    rw [(sameTp_iff _ _).2 e] at this
    cases this
theorem pos_some {H : List Cl} {k : Tp} (h : 0 ≤ posK H k) : ∃ i, ∃ hi : i < H.length, posK H k = i ∧ H[i].key = k ∧ ∀ j (hj : j < i), (H[j]'(Nat.lt_trans hj hi)).key ≠ k := by
  unfold posK at h ⊢
  split at h
  · rename_i i hi
    try rw [hi]
    obtain ⟨h1, h2, h3⟩ := List.findIdx?_eq_some_iff_getElem.1 hi
    refine ⟨i, h1, rfl, (sameTp_iff _ _).1 h2, fun j hj e => ?_⟩
    have := h3 j hj
    rw [(sameTp_iff _ _).2 e] at this
    simp at this
  · omega
theorem MapI.there {t H : List Cl} (m : MapI t H) {k : Tp} : 0 ≤ posK H k ↔ ∃ n, HasC t k n := by
  constructor
  · intro h
    obtain ⟨i, hi, _, hk, _⟩ := pos_some h
    exact ⟨_, (m.has k _).2 ⟨H[i], List.getElem_mem hi, hk, rfl⟩⟩
  · rintro ⟨n, hn⟩
    obtain ⟨c, hc, hk, _⟩ := (m.has k n).1 hn
    rcases Int.lt_or_le (posK H k) 0 with h | h
    · exact absurd hk (pos_none h c hc)
    · exact h
theorem MapI.new {n : Nat} (h : sizeC n = true) : MapI (List.replicate n cl0) [] := by
  obtain ⟨h1, h2, h3⟩ := right_new h
  exact ⟨h1, h2, fun k n => ⟨fun x => absurd x (h3 k n), fun ⟨c, hc, _⟩ => absurd hc (List.not_mem_nil)⟩, List.Pairwise.nil⟩
/-- a key is put. -/
theorem MapI.put {t H T : List Cl} (m : MapI t H) {c : Cl} (h : PutOk t c.key c.num T) : posK H c.key < 0 ∧ MapI T (H ++ [c]) := by
  have hn : posK H c.key < 0 := by
    rcases Int.lt_or_le (posK H c.key) 0 with h' | h'
    · exact h'
    · obtain ⟨n, hn⟩ := m.there.1 h'
      have := (seek_has m.right hn).1
      rw [h.free] at this
      cases this
  refine ⟨hn, h.right, by rw [h.used, m.used]; simp, fun k n => (h.has k n).trans ?_, ?_⟩
  · rw [m.has]
    constructor
    · rintro (⟨rfl, rfl⟩ | ⟨d, hd, h1, h2⟩)
      · exact ⟨c, by simp, rfl, rfl⟩
      · exact ⟨d, by simp [hd], h1, h2⟩
    · rintro ⟨d, hd, h1, h2⟩
      rcases List.mem_append.1 hd with hd | hd
      · exact .inr ⟨d, hd, h1, h2⟩
      · obtain rfl := List.mem_singleton.1 hd
        exact .inl ⟨h1.symm, h2.symm⟩
  · refine List.pairwise_append.2 ⟨m.once, List.pairwise_singleton _ _, fun a ha b hb => ?_⟩
    obtain rfl := List.mem_singleton.1 hb
    exact pos_none hn a ha
/-- an error of Put. -/
theorem MapI.put_no {t H : List Cl} (m : MapI t H) {c : Cl} {e : Int} (h : putC t c.key c.num = (t, e)) (he : e = 1 ∨ e = 10 ∨ e = 8) : e = 10 ↔ 0 ≤ posK H c.key := by
  unfold putC at h
  rw [rightCB_of m.right] at h
  rw [m.there]
  by_cases hk : rightT c.key = true
  · rw [hk, if_neg (by decide)] at h
    cases hu : (atC t (seekP t c.key)).used
    · rw [hu, if_neg (by decide)] at h
      have hn : ¬ ∃ n, HasC t c.key n := fun ⟨n, hn⟩ => by
        have := (seek_has m.right hn).1
        rw [hu] at this; cases this
      have : e ≠ 10 := by
        split at h
        · injection h with _ h; omega
        · injection h with _ h; omega
      exact ⟨fun q => absurd q this, fun q => absurd q hn⟩
    · rw [if_pos hu] at h
      injection h with _ h
      exact ⟨fun _ => ⟨_, (m.right.has _ _).2 ⟨hu, rfl⟩⟩, fun _ => h.symm⟩
  · have hk' : rightT c.key = false := by simpa using hk
    rw [hk', if_pos (by decide)] at h
    injection h with _ h
    refine ⟨fun q => by omega, fun ⟨n, hn⟩ => ?_⟩
    obtain ⟨q, hq, hc⟩ := hn
    have := ((m.right.cell q hq).1 (by rw [hc])).2.2
    rw [hc] at this
    exact absurd this hk
/-- a key is taken out. -/
theorem MapI.del {t H T : List Cl} (m : MapI t H) {k : Tp} (h : DelOk t k T) : ∃ i, i < H.length ∧ posK H k = i ∧ MapI T (H.take i ++ H.drop (i + 1)) := by
  obtain ⟨i, hi, hp, hk, _⟩ := pos_some (m.there.2 h.there)
  have hsplit : H = H.take i ++ H[i] :: H.drop (i + 1) := by
    rw [← List.drop_eq_getElem_cons hi, List.take_append_drop]
  have ho := m.once
  rw [hsplit] at ho
  have ho' := List.pairwise_append.1 ho
  have ho2 := List.pairwise_cons.1 ho'.2.1
  refine ⟨i, hi, hp, h.right, ?_, fun k' n => (h.has k' n).trans ?_, ?_⟩
  · have := h.used
    rw [m.used] at this
    simp
    omega
  · rw [m.has]
    constructor
    · rintro ⟨⟨c, hc, h1, h2⟩, hne⟩
      rw [hsplit] at hc
      rcases List.mem_append.1 hc with hc | hc
      · exact ⟨c, List.mem_append.2 (.inl hc), h1, h2⟩
      · rcases List.mem_cons.1 hc with rfl | hc
        · exact absurd (h1.symm.trans hk) hne
        · exact ⟨c, List.mem_append.2 (.inr hc), h1, h2⟩
    · rintro ⟨c, hc, h1, h2⟩
      rcases List.mem_append.1 hc with hc | hc
      · refine ⟨⟨c, by rw [hsplit]; exact List.mem_append.2 (.inl hc), h1, h2⟩, fun e => ?_⟩
        exact ho'.2.2 c hc H[i] (List.mem_cons.2 (.inl rfl)) (by rw [h1, e, hk])
      · refine ⟨⟨c, by rw [hsplit]; exact List.mem_append.2 (.inr (List.mem_cons.2 (.inr hc))), h1, h2⟩, fun e => ?_⟩
        exact ho2.1 c hc (by rw [hk, h1, e])
  · exact List.pairwise_append.2 ⟨ho'.1, ho2.2, fun a ha b hb => ho'.2.2 a ha b (List.mem_cons.2 (.inr hb))⟩
theorem MapI.del_no {t H : List Cl} (m : MapI t H) {k : Tp} {e : Int} (h : delC t k = (t, e)) (he : e = 1 ∨ e = 9) : posK H k < 0 := by
  rcases Int.lt_or_le (posK H k) 0 with h' | h'
  · exact h'
  · obtain ⟨n, hn⟩ := m.there.1 h'
    obtain ⟨p1, _⟩ := del_ok m.right (seek_has m.right hn).1
    rw [p1] at h
    injection h with _ h
    omega
theorem MapI.get {t H : List Cl} (m : MapI t H) {i : Nat} (hi : i < H.length) : getC t H[i].key = (H[i].num, true) := get_has m.right ((m.has _ _).2 ⟨H[i], List.getElem_mem hi, rfl, rfl⟩)
end Go.Proofs.Ytofpalmghdapkaa

/- Heaps of alarms, as the library's heap keeps them: plain mathematics. -/
namespace Go.Proofs.Ytofpalmghdapkaa
set_option linter.unusedVariables false

def atA (l : List Al) (i : Nat) : Al := l.getD i ⟨0, 0⟩
def ltA (a b : Al) : Bool := !leA b a
def swA (l : List Al) (i j : Nat) : List Al := (l.set i (atA l j)).set j (atA l i)
def parA (k : Nat) : Nat := (k - 1) / 2
theorem atA_get {l : List Al} {i : Nat} (h : i < l.length) : atA l i = l[i] := by unfold atA; rw [List.getD_eq_getElem?_getD, List.getElem?_eq_getElem h]; rfl
theorem atA_set {l : List Al} {i : Nat} (h : i < l.length) (a : Al) (j : Nat) : atA (l.set i a) j = if i = j then a else atA l j := by
  unfold atA
  rw [List.getD_eq_getElem?_getD, List.getD_eq_getElem?_getD, List.getElem?_set]
  split
  · rename_i e
    subst e
    first | rfl | (rw [if_pos h]; rfl)
  · rfl
theorem sw_len (l : List Al) (i j : Nat) : (swA l i j).length = l.length := by unfold swA; rw [List.length_set, List.length_set]
theorem sw_at {l : List Al} {i j : Nat} (hi : i < l.length) (hj : j < l.length) (k : Nat) : atA (swA l i j) k = if j = k then atA l i else if i = k then atA l j else atA l k := by
  unfold swA
  rw [atA_set (by rw [List.length_set]; exact hj), atA_set hi]
theorem sw_perm {l : List Al} {i j : Nat} (hi : i < l.length) (hj : j < l.length) : (swA l i j).Perm l := by
  unfold swA
  rw [atA_get hi, atA_get hj]
  exact List.set_set_perm hi hj
theorem lt_le {a b : Al} (h : ltA a b = true) : leA a b = true := by
  have := leA_total a b
  unfold ltA at h
  cases hb : leA b a
  · rw [hb] at this; simpa using this
  · rw [hb] at h; cases h
theorem not_lt {a b : Al} (h : ltA a b = false) : leA b a = true := by
  unfold ltA at h
  simpa using h
theorem par_lt {k : Nat} (h : 0 < k) : parA k < k := by unfold parA; omega
theorem par_of {k i : Nat} (h : 0 < k) : parA k = i ↔ (k = 2 * i + 1 ∨ k = 2 * i + 2) := by unfold parA; omega
/-- no alarm is ahead of its parent. -/
def HeapA (l : List Al) (n : Nat) : Prop := ∀ k, 0 < k → k < n → leA (atA l (parA k)) (atA l k) = true
/-- but at one place, below which all is in order. -/
structure HoleA (l : List Al) (n i : Nat) : Prop where
  rest : ∀ k, 0 < k → k < n → k ≠ i → parA k ≠ i → leA (atA l (parA k)) (atA l k) = true
  over : ∀ k, 0 < k → k < n → parA k = i → 0 < i → leA (atA l (parA i)) (atA l k) = true
/-- but that one may be ahead of its parent. -/
structure UpA (l : List Al) (n j : Nat) : Prop where
  rest : ∀ k, 0 < k → k < n → k ≠ j → leA (atA l (parA k)) (atA l k) = true
  over : ∀ k, 0 < k → k < n → parA k = j → 0 < j → leA (atA l (parA j)) (atA l k) = true
theorem UpA.top {l : List Al} {n : Nat} (h : UpA l n 0) : HeapA l n := fun k h0 hk => h.rest k h0 hk (by omega)
theorem UpA.stop {l : List Al} {n j : Nat} (h : UpA l n j) (hl : leA (atA l (parA j)) (atA l j) = true) : HeapA l n := fun k h0 hk => by
  by_cases e : k = j
  · rw [e]; exact hl
  · exact h.rest k h0 hk e
theorem UpA.step {l : List Al} {n j : Nat} (h : UpA l n j) (h0 : 0 < j) (hj : j < n) (hn : n ≤ l.length) (hl : ltA (atA l j) (atA l (parA j)) = true) : UpA (swA l (parA j) j) n (parA j) := by
  have hp := par_lt h0
  have A := sw_at (l := l) (i := parA j) (j := j) (by omega) (by omega)
  have hle := lt_le hl
  refine ⟨fun k k0 kn kne => ?_, fun k k0 kn kp i0 => ?_⟩
  · have kp := par_lt k0
    by_cases e : k = j
    · rw [e, A (parA j), A j, if_pos rfl, if_neg (by omega), if_pos rfl]
      exact hle
    · by_cases e2 : parA k = parA j
      · rw [e2, A (parA j), A k, if_neg (by omega), if_pos rfl, if_neg (fun q => e q.symm), if_neg (fun q => kne q.symm)]
        refine leA_trans _ _ _ hle ?_
        have := h.rest k k0 kn e
        rwa [e2] at this
      · by_cases e3 : parA k = j
        · rw [e3, A j, A k, if_pos rfl, if_neg (fun q => e q.symm), if_neg (fun q => kne q.symm)]
          exact h.over k k0 kn e3 h0
        · rw [A (parA k), A k, if_neg (fun q => e3 q.symm), if_neg (fun q => e2 q.symm), if_neg (fun q => e q.symm), if_neg (fun q => kne q.symm)]
          exact h.rest k k0 kn e
  · have hpp := par_lt i0
    have e1 := h.rest (parA j) i0 (by omega) (by omega)
    rw [A (parA (parA j)), A k, if_neg (by omega), if_neg (by omega)]
    by_cases e : k = j
    · rw [if_pos e.symm]; exact e1
    · rw [if_neg (fun q => e q.symm), if_neg (by have := par_lt k0; omega)]
      refine leA_trans _ _ _ e1 ?_
      have := h.rest k k0 kn e
      rwa [kp] at this
/-- while an alarm goes down from i0. -/
structure DownA (l0 l : List Al) (n i0 i : Nat) : Prop where
  hole : HoleA l n i
  ge : i0 ≤ i
  moved : i0 < i → leA (atA l (parA i)) (atA l i) = true
  same : i = i0 → l = l0
theorem DownA.start {l : List Al} {n i : Nat} (h : HoleA l n i) : DownA l l n i i := ⟨h, Nat.le_refl _, fun q => by omega, fun _ => rfl⟩
theorem DownA.step {l0 l : List Al} {n i0 i j : Nat} (h : DownA l0 l n i0 i) (hn : n ≤ l.length) (j0 : 0 < j) (hj : j < n) (hp : parA j = i) (hl : ltA (atA l j) (atA l i) = true) (hs : ∀ k, 0 < k → k < n → parA k = i → leA (atA l j) (atA l k) = true) : DownA l0 (swA l i j) n i0 j := by
  have hij : i < j := by rw [← hp]; exact par_lt j0
  have A := sw_at (l := l) (i := i) (j := j) (by omega) (by omega)
  have hle := lt_le hl
  refine ⟨⟨fun k k0 kn kne kp => ?_, fun k k0 kn kp _ => ?_⟩, by have := h.ge; omega, fun _ => ?_, fun e => by have := h.ge; omega⟩
  · have hpk := par_lt k0
    by_cases e : k = i
    · rw [e]
      rw [A (parA i), A i, if_neg (by rw [e] at hpk; omega), if_neg (by rw [e] at hpk; omega), if_neg (by omega), if_pos rfl]
      exact h.hole.over j j0 hj hp (by omega)
    · by_cases e2 : parA k = i
      · rw [e2, A i, A k, if_neg (by omega), if_pos rfl, if_neg (fun q => kne q.symm), if_neg (fun q => e q.symm)]
        exact hs k k0 kn e2
      · rw [A (parA k), A k, if_neg (fun q => kp q.symm), if_neg (fun q => e2 q.symm), if_neg (fun q => kne q.symm), if_neg (fun q => e q.symm)]
        exact h.hole.rest k k0 kn e e2
  · have hpk := par_lt k0
    rw [hp, A i, A k, if_neg (by omega), if_pos rfl, if_neg (by omega), if_neg (by omega)]
    have := h.hole.rest k k0 kn (by omega) (by omega)
    rwa [kp] at this
  · rw [hp, A i, A j, if_neg (by omega), if_pos rfl, if_pos rfl]
    exact hle
theorem DownA.stop {l0 l : List Al} {n i0 i : Nat} (h : DownA l0 l n i0 i) (hs : ∀ k, 0 < k → k < n → parA k = i → leA (atA l i) (atA l k) = true) : (i0 < i → HeapA l n) ∧ (i = i0 → l = l0 ∧ UpA l0 n i0) := by
  refine ⟨fun hi k k0 kn => ?_, fun e => ?_⟩
  · by_cases e : k = i
    · rw [e]; exact h.moved hi
    · by_cases e2 : parA k = i
      · rw [e2]; exact hs k k0 kn e2
      · exact h.hole.rest k k0 kn e e2
  · have hl := h.same e
    subst hl
    subst e
    refine ⟨rfl, fun k k0 kn kne => ?_, fun k k0 kn kp i0 => h.hole.over k k0 kn kp i0⟩
    by_cases e2 : parA k = i
    · rw [e2]; exact hs k k0 kn e2
    · exact h.hole.rest k k0 kn kne e2
/-- in a heap the first one is not behind any other. -/
theorem HeapA.first {l : List Al} {n : Nat} (h : HeapA l n) : ∀ k, k < n → leA (atA l 0) (atA l k) = true := by
  intro k
  induction k using Nat.strongRecOn with
  | _ k ih =>
    intro hk
    rcases Nat.eq_zero_or_pos k with e | k0
    · subst e; rw [leA_iff]; omega
    · have hp := par_lt k0
      exact leA_trans _ _ _ (ih _ hp (by omega)) (h k k0 hk)
/-- whoever is put at a place of a heap leaves it in order but there. -/
theorem HeapA.hole {l : List Al} {n : Nat} (h : HeapA l n) {i : Nat} (hi : i < l.length) (a : Al) {m : Nat} (hm : m ≤ n) : HoleA (l.set i a) m i := by
  have A := atA_set hi a
  refine ⟨fun k k0 kn kne kp => ?_, fun k k0 kn kp i0 => ?_⟩
  · rw [A (parA k), A k, if_neg (fun q => kp q.symm), if_neg (fun q => kne q.symm)]
    exact h k k0 (by omega)
  · have h1 := par_lt k0
    have h2 := par_lt i0
    rw [A (parA i), A k, if_neg (by omega), if_neg (by omega)]
    refine leA_trans _ _ _ (h i i0 (by omega)) ?_
    have := h k k0 (by omega)
    rwa [kp] at this
/-- the same of one that is put at a heap's end. -/
theorem HeapA.snoc {l : List Al} (h : HeapA l l.length) (a : Al) : UpA (l ++ [a]) (l.length + 1) l.length := by
  have A : ∀ k, k < l.length → atA (l ++ [a]) k = atA l k := fun k hk => by
    unfold atA
    rw [List.getD_eq_getElem?_getD, List.getD_eq_getElem?_getD, List.getElem?_append_left hk]
  refine ⟨fun k k0 kn kne => ?_, fun k k0 kn kp i0 => ?_⟩
  · have := par_lt k0
    rw [A _ (by omega), A _ (by omega)]
    exact h k k0 (by omega)
  · have := par_lt k0
    omega
/-- a heap's two places are changed, the later one no longer counts: in order but at the former. -/
theorem HeapA.swap {l : List Al} {n : Nat} (h : HeapA l (n + 1)) (hn : n < l.length) {i : Nat} (hi : i ≤ n) : HoleA (swA l i n) n i := by
  have A := sw_at (l := l) (i := i) (j := n) (by omega) hn
  refine ⟨fun k k0 kn kne kp => ?_, fun k k0 kn kp i0 => ?_⟩
  · have h1 := par_lt k0
    rw [A (parA k), A k, if_neg (by omega), if_neg (fun q => kp q.symm), if_neg (by omega), if_neg (fun q => kne q.symm)]
    exact h k k0 (by omega)
  · have h1 := par_lt k0
    have h2 := par_lt i0
    rw [A (parA i), A k, if_neg (by omega), if_neg (by omega), if_neg (by omega), if_neg (by omega)]
    refine leA_trans _ _ _ (h i i0 (by omega)) ?_
    have := h k k0 (by omega)
    rwa [kp] at this
theorem HeapA.less {l : List Al} {n m : Nat} (h : HeapA l n) (hm : m ≤ n) : HeapA l m := fun k k0 km => h k k0 (by omega)
theorem HeapA.cut {l : List Al} {n m : Nat} (h : HeapA l n) (hm : n ≤ m) : HeapA (l.take m) n := fun k k0 kn => by
  have A : ∀ j, j < m → atA (l.take m) j = atA l j := fun j hj => by
    unfold atA
    rw [List.getD_eq_getElem?_getD, List.getD_eq_getElem?_getD, List.getElem?_take, if_pos hj]
  have := par_lt k0
  rw [A _ (by omega), A _ (by omega)]
  exact h k k0 kn
/-- the same alarms, the later places as they were. -/
structure OrdA (n : Nat) (l l' : List Al) : Prop where
  perm : l'.Perm l
  len : l'.length = l.length
  tail : ∀ k, n ≤ k → atA l' k = atA l k
theorem OrdA.refl (n : Nat) (l : List Al) : OrdA n l l := ⟨List.Perm.refl _, rfl, fun _ _ => rfl⟩
theorem OrdA.swap {n : Nat} {l l' : List Al} (h : OrdA n l l') {i j : Nat} (hi : i < n) (hj : j < n) (hn : n ≤ l.length) : OrdA n l (swA l' i j) := by
  have hl := h.len
  refine ⟨(sw_perm (by omega) (by omega)).trans h.perm, by rw [sw_len]; exact hl, fun k hk => ?_⟩
  rw [sw_at (by omega) (by omega), if_neg (by omega), if_neg (by omega)]
  exact h.tail k hk
theorem OrdA.trans {n : Nat} {l l' l'' : List Al} (h : OrdA n l l') (h' : OrdA n l' l'') : OrdA n l l'' := ⟨h'.perm.trans h.perm, h'.len.trans h.len, fun k hk => (h'.tail k hk).trans (h.tail k hk)⟩
end Go.Proofs.Ytofpalmghdapkaa

/- Where each alarm stands in a row: plain mathematics. -/
namespace Go.Proofs.Ytofpalmghdapkaa
set_option linter.unusedVariables false

theorem OnceA.at_iff {l : List Al} (o : OnceA l) (z : Int) (i : Nat) : findH l z = some i ↔ i < l.length ∧ (atA l i).num = z := by
  constructor
  · intro h
    obtain ⟨hi, h1, _⟩ := find_some h
    exact ⟨hi, by rw [atA_get hi]; exact h1⟩
  · rintro ⟨hi, h1⟩
    rw [atA_get hi] at h1
    refine find_is hi h1 fun j hj e => ?_
    exact List.pairwise_iff_getElem.1 o j i (by omega) hi hj (e.trans h1.symm)
theorem OnceA.inj {l : List Al} (o : OnceA l) {i j : Nat} (hi : i < l.length) (hj : j < l.length) (e : (atA l i).num = (atA l j).num) : i = j := by
  have h1 := (o.at_iff (atA l i).num i).2 ⟨hi, rfl⟩
  have h2 := (o.at_iff (atA l i).num j).2 ⟨hj, e.symm⟩
  rw [h1] at h2
  injection h2
theorem OnceA.perm {l l' : List Al} (o : OnceA l) (h : l'.Perm l) : OnceA l' := (h.pairwise_iff (fun {a b} hne => Ne.symm hne)).2 o
theorem OnceA.sw {l : List Al} (o : OnceA l) {i j : Nat} (hi : i < l.length) (hj : j < l.length) : OnceA (swA l i j) := o.perm (sw_perm hi hj)
/-- two alarms change places. -/
theorem find_sw {l : List Al} (o : OnceA l) {i j : Nat} (hi : i < l.length) (hj : j < l.length) (z : Int) : findH (swA l i j) z = if z = (atA l i).num then some j else if z = (atA l j).num then some i else findH l z := by
  have A := sw_at hi hj
  apply Option.ext
  intro k
  rw [(o.sw hi hj).at_iff, sw_len, A k]
  by_cases h1 : z = (atA l i).num
  · rw [if_pos h1]
    constructor
    · rintro ⟨hk, hz⟩
      by_cases e1 : j = k
      · rw [e1]
      · rw [if_neg e1] at hz
        by_cases e2 : i = k
        · rw [if_pos e2] at hz
          have := o.inj hj hi (hz.trans h1)
          omega
        · rw [if_neg e2] at hz
          have := o.inj hk hi (hz.trans h1)
          omega
    · intro e
      injection e with e
      subst e
      exact ⟨hj, by rw [if_pos rfl]; exact h1.symm⟩
  · rw [if_neg h1]
    by_cases h2 : z = (atA l j).num
    · rw [if_pos h2]
      constructor
      · rintro ⟨hk, hz⟩
        by_cases e1 : j = k
        · rw [if_pos e1] at hz; exact absurd hz.symm h1
        · rw [if_neg e1] at hz
          by_cases e2 : i = k
          · rw [e2]
          · rw [if_neg e2] at hz
            have := o.inj hk hj (hz.trans h2)
            omega
      · intro e
        injection e with e
        subst e
        refine ⟨hi, ?_⟩
        by_cases e1 : j = i
        · rw [e1] at h2; exact absurd h2 h1
        · rw [if_neg e1, if_pos rfl]; exact h2.symm
    · rw [if_neg h2, o.at_iff]
      constructor
      · rintro ⟨hk, hz⟩
        by_cases e1 : j = k
        · rw [if_pos e1] at hz; exact absurd hz.symm h1
        · rw [if_neg e1] at hz
          by_cases e2 : i = k
          · rw [if_pos e2] at hz; exact absurd hz.symm h2
          · rw [if_neg e2] at hz; exact ⟨hk, hz⟩
      · rintro ⟨hk, hz⟩
        refine ⟨hk, ?_⟩
        rw [if_neg (fun e => h2 (by rw [e]; exact hz.symm)), if_neg (fun e => h1 (by rw [e]; exact hz.symm))]
        exact hz
theorem at_append {l : List Al} (a : Al) (k : Nat) : atA (l ++ [a]) k = if k < l.length then atA l k else if k = l.length then a else ⟨0, 0⟩ := by
  unfold atA
  rw [List.getD_eq_getElem?_getD, List.getD_eq_getElem?_getD]
  by_cases h : k < l.length
  · rw [if_pos h, List.getElem?_append_left h]
  · rw [if_neg h, List.getElem?_append_right (by omega)]
    by_cases e : k = l.length
    · rw [if_pos e, e, Nat.sub_self]; rfl
    · rw [if_neg e, List.getElem?_eq_none (by simp; omega)]; rfl
/-- one more at the end. -/
theorem find_snoc {l : List Al} (o : OnceA l) {a : Al} (h : ∀ b ∈ l, b.num ≠ a.num) (z : Int) : findH (l ++ [a]) z = if z = a.num then some l.length else findH l z := by
  have o' := o.snoc h
  have hne : ∀ k, k < l.length → (atA l k).num ≠ a.num := fun k hk => by rw [atA_get hk]; exact h _ (List.getElem_mem hk)
  apply Option.ext
  intro k
  rw [o'.at_iff, at_append, List.length_append]
  by_cases h1 : z = a.num
  · rw [if_pos h1]
    constructor
    · rintro ⟨hk, hz⟩
      by_cases e1 : k < l.length
      · rw [if_pos e1] at hz; exact absurd (hz.trans h1) (hne k e1)
      · have : k = l.length := by simp at hk; omega
        rw [this]
    · intro e
      injection e with e
      subst e
      refine ⟨by simp, ?_⟩
      rw [if_neg (by omega), if_pos rfl]; exact h1.symm
  · rw [if_neg h1, o.at_iff]
    constructor
    · rintro ⟨hk, hz⟩
      by_cases e1 : k < l.length
      · rw [if_pos e1] at hz; exact ⟨e1, hz⟩
      · have e2 : k = l.length := by simp at hk; omega
        rw [if_neg e1, if_pos e2] at hz; exact absurd hz.symm h1
    · rintro ⟨hk, hz⟩
      exact ⟨by simp; omega, by rw [if_pos hk]; exact hz⟩
theorem at_take {l : List Al} {n k : Nat} (h : k < n) : atA (l.take n) k = atA l k := by
  unfold atA
  rw [List.getD_eq_getElem?_getD, List.getD_eq_getElem?_getD, List.getElem?_take, if_pos h]
/-- the last one is taken. -/
theorem find_take {l : List Al} (o : OnceA l) {n : Nat} (hn : l.length = n + 1) (z : Int) : findH (l.take n) z = if z = (atA l n).num then none else findH l z := by
  have o' : OnceA (l.take n) := List.Pairwise.sublist (List.take_sublist n l) o
  have hl : (l.take n).length = n := by rw [List.length_take]; omega
  apply Option.ext
  intro k
  rw [o'.at_iff, hl]
  by_cases h1 : z = (atA l n).num
  · rw [if_pos h1]
    constructor
    · rintro ⟨hk, hz⟩
      rw [at_take hk] at hz
      have := o.inj (by omega) (by omega) (hz.trans h1)
      omega
    · intro e; cases e
  · rw [if_neg h1, o.at_iff]
    constructor
    · rintro ⟨hk, hz⟩
      rw [at_take hk] at hz
      exact ⟨by omega, hz⟩
    · rintro ⟨hk, hz⟩
      have : k ≠ n := fun e => h1 (by rw [← hz, e])
      exact ⟨by omega, by rw [at_take (by omega)]; exact hz⟩
/-- an alarm gets another time. -/
theorem find_when {l : List Al} (o : OnceA l) {i : Nat} (hi : i < l.length) (t : Int) : OnceA (l.set i ⟨(atA l i).num, t⟩) ∧ ∀ z, findH (l.set i ⟨(atA l i).num, t⟩) z = findH l z := by
  have A := atA_set hi ⟨(atA l i).num, t⟩
  have N : ∀ k, (atA (l.set i ⟨(atA l i).num, t⟩) k).num = (atA l k).num := fun k => by
    rw [A k]
    split
    · rename_i e; rw [e]
    · rfl
  have o' : OnceA (l.set i ⟨(atA l i).num, t⟩) := by
    refine List.pairwise_iff_getElem.2 fun p q hp hq hlt e => ?_
    rw [List.length_set] at hp hq
    have hp' : p < (l.set i ⟨(atA l i).num, t⟩).length := by rw [List.length_set]; exact hp
    have hq' : q < (l.set i ⟨(atA l i).num, t⟩).length := by rw [List.length_set]; exact hq
    rw [← atA_get hp', ← atA_get hq', N, N] at e
    have := o.inj hp hq e
    omega
  refine ⟨o', fun z => ?_⟩
  apply Option.ext
  intro k
  rw [o'.at_iff, o.at_iff, List.length_set, N]
/-- the same alarms in another order: who is there is there. -/
theorem find_perm {l l' : List Al} (h : l'.Perm l) (z : Int) : (findH l' z = none ↔ findH l z = none) := by
  constructor
  · intro h1
    exact find_not fun a ha => find_none h1 a (h.mem_iff.2 ha)
  · intro h1
    exact find_not fun a ha => find_none h1 a (h.mem_iff.1 ha)
theorem find_at {l : List Al} (o : OnceA l) {z : Int} {i : Nat} (h : findH l z = some i) : i < l.length ∧ (atA l i).num = z := (o.at_iff z i).1 h
end Go.Proofs.Ytofpalmghdapkaa

/- A heap's alarms and the document's wheel: plain mathematics. -/
namespace Go.Proofs.Ytofpalmghdapkaa
set_option linter.unusedVariables false

theorem cut_perm {l : List Al} {i : Nat} (hi : i < l.length) : l.Perm (l[i] :: (l.take i ++ l.drop (i + 1))) := by
  have h := cut_split hi
  have p : (l.take i ++ l[i] :: l.drop (i + 1)).Perm (l[i] :: (l.take i ++ l.drop (i + 1))) := List.perm_middle
  rw [← h] at p
  exact p
theorem set_perm {l : List Al} {i : Nat} (hi : i < l.length) (a : Al) : (l.set i a).Perm (a :: (l.take i ++ l.drop (i + 1))) := by
  rw [List.set_eq_take_append_cons_drop, if_pos hi]
  exact List.perm_middle
theorem OnceA.same {l : List Al} (o : OnceA l) {a b : Al} (ha : a ∈ l) (hb : b ∈ l) (e : a.num = b.num) : a = b := by
  obtain ⟨i, hi, h1, h2⟩ := o.find ha
  obtain ⟨j, hj, h3, h4⟩ := o.find hb
  rw [e, h3] at h1
  injection h1 with h1
  subst h1
  exact h2.symm.trans h4
theorem at_mem {l : List Al} {i : Nat} (hi : i < l.length) : atA l i ∈ l := by rw [atA_get hi]; exact List.getElem_mem hi
/-- where both have a number, what is left of both is the same. -/
theorem cut_both {l X : List Al} (p : l.Perm X) (o : OnceA X) {n : Int} {i j : Nat} (h1 : findH l n = some i) (h2 : findH X n = some j) : ∃ hi : i < l.length, ∃ hj : j < X.length, X[j] = atA l i ∧ (l.take i ++ l.drop (i + 1)).Perm (X.take j ++ X.drop (j + 1)) := by
  obtain ⟨hi, e1, _⟩ := find_some h1
  obtain ⟨hj, e2, _⟩ := find_some h2
  have e : X[j] = l[i] := o.same (List.getElem_mem hj) (p.mem_iff.1 (List.getElem_mem hi)) (e2.trans e1.symm)
  refine ⟨hi, hj, by rw [atA_get hi]; exact e, ?_⟩
  have q := (cut_perm hi).symm.trans (p.trans (cut_perm hj))
  rw [e] at q
  exact q.cons_inv
theorem find_both {l X : List Al} (p : l.Perm X) {n : Int} {i : Nat} (h : findH l n = some i) : ∃ j, findH X n = some j := by
  cases hx : findH X n with
  | none =>
    rw [(find_perm p n).2 hx] at h
    cases h
  | some j => exact ⟨j, rfl⟩
theorem when_none {l : List Al} {x : Wh} (p : l.Perm x.list) {n : Int} (h : findH l n = none) : whenH x n = (0, false) := by
  unfold whenH
  rw [(find_perm p n).1 h]
theorem when_some {l : List Al} {x : Wh} (p : l.Perm x.list) (o : OnceA x.list) {n : Int} {i : Nat} (h : findH l n = some i) : whenH x n = ((atA l i).at_, true) := by
  obtain ⟨j, hj⟩ := find_both p h
  obtain ⟨hi, hj', e, _⟩ := cut_both p o h hj
  unfold whenH
  rw [hj]
  dsimp only
  rw [List.getD_eq_getElem?_getD, List.getElem?_eq_getElem hj', e]
  rfl
theorem drop_none {l : List Al} {x : Wh} (p : l.Perm x.list) {n : Int} (h : findH l n = none) : dropH x n = (x, 9) := by
  unfold dropH
  rw [(find_perm p n).1 h]
theorem drop_some {l l' : List Al} {x : Wh} (p : l.Perm x.list) (o : OnceA x.list) {n : Int} {i : Nat} (h : findH l n = some i) (h' : (atA l i :: l').Perm l) : ∃ X, dropH x n = (⟨X, x.now⟩, 0) ∧ l'.Perm X := by
  obtain ⟨j, hj⟩ := find_both p h
  obtain ⟨hi, hj', e, q⟩ := cut_both p o h hj
  refine ⟨_, by unfold dropH; rw [hj], ?_⟩
  have r := h'.trans (cut_perm hi)
  rw [← atA_get hi] at r
  exact r.cons_inv.trans q
theorem set_new {l l' : List Al} {x : Wh} (p : l.Perm x.list) {n t : Int} (hb : 0 ≤ n ∧ n ≤ 2147483647 ∧ x.now < t ∧ t ≤ 1099511627776) (h0 : 0 ≤ x.now) (h : findH l n = none) (hl : l.length < 256) (h' : l'.Perm (l ++ [⟨n, t⟩])) : ∃ X, setH x n t = (⟨X, x.now⟩, 0) ∧ l'.Perm X := by
  refine ⟨x.list ++ [⟨n, t⟩], ?_, h'.trans (p.append_right _)⟩
  unfold setH
  rw [if_neg (by omega), if_neg (by omega), (find_perm p n).1 h]
  dsimp only
  rw [if_neg (by rw [← p.length_eq]; omega)]
theorem set_full {l : List Al} {x : Wh} (p : l.Perm x.list) {n t : Int} (hb : 0 ≤ n ∧ n ≤ 2147483647 ∧ x.now < t ∧ t ≤ 1099511627776) (h0 : 0 ≤ x.now) (h : findH l n = none) (hl : 256 ≤ l.length) : setH x n t = (x, 8) := by
  unfold setH
  rw [if_neg (by omega), if_neg (by omega), (find_perm p n).1 h]
  dsimp only
  rw [if_pos (by rw [← p.length_eq]; omega)]
theorem set_again {l l' : List Al} {x : Wh} (p : l.Perm x.list) (o : OnceA x.list) {n t : Int} (hb : 0 ≤ n ∧ n ≤ 2147483647 ∧ x.now < t ∧ t ≤ 1099511627776) (h0 : 0 ≤ x.now) {i : Nat} (h : findH l n = some i) (h' : l'.Perm (l.set i ⟨n, t⟩)) : ∃ X, setH x n t = (⟨X, x.now⟩, 0) ∧ l'.Perm X := by
  obtain ⟨j, hj⟩ := find_both p h
  obtain ⟨hi, hj', e, q⟩ := cut_both p o h hj
  refine ⟨_, set_found hb h0 hj, ?_⟩
  refine h'.trans ((set_perm hi ⟨n, t⟩).trans ?_)
  refine (List.Perm.cons _ q).trans ?_
  exact (List.perm_append_comm (l₁ := [_]))
/-- what is due hangs on the alarms alone, not on their order. -/
theorem due_eq {l l' : List Al} (p : l'.Perm l) (now : Int) : dueA l' now = dueA l now :=
  due_is ((due_perm l now).trans (p.symm.filter _)) (due_sort l now)
theorem left_perm {l l' : List Al} (p : l'.Perm l) (now : Int) : (leftA l' now).Perm (leftA l now) := p.filter _
/-- the first one of a heap is due first. -/
theorem due_first {l l' : List Al} {now : Int} (hp : HeapA l l.length) (h : (atA l 0 :: l').Perm l) (hd : (atA l 0).at_ ≤ now) : dueA l now = atA l 0 :: dueA l' now ∧ (leftA l' now).Perm (leftA l now) := by
  have hle : ∀ a ∈ l', leA (atA l 0) a = true := fun a ha => by
    have hm := h.mem_iff.1 (List.mem_cons_of_mem _ ha)
    obtain ⟨k, hk, rfl⟩ := List.getElem_of_mem hm
    have := hp.first k hk
    rwa [atA_get hk] at this
  constructor
  · rw [← due_eq h]
    exact due_cons (l1 := []) (l2 := l') hd (fun a ha => by cases ha) (fun a ha _ => hle a ha)
  · refine List.Perm.trans ?_ (left_perm h now)
    have := left_drop (l1 := []) (l2 := l') (b := atA l 0) (now := now) hd
    rw [List.nil_append, List.nil_append] at this
    rw [this]
/-- nothing is due where the first one isn't. -/
theorem due_none {l : List Al} {now : Int} (hp : HeapA l l.length) (h : l.length = 0 ∨ now < (atA l 0).at_) : dueA l now = [] ∧ leftA l now = l := by
  refine due_nil fun a ha => ?_
  obtain ⟨k, hk, rfl⟩ := List.getElem_of_mem ha
  rcases h with h | h
  · omega
  · have := hp.first k hk
    rw [leA_iff, atA_get hk] at this
    omega
end Go.Proofs.Ytofpalmghdapkaa

/- A store's flows in a table of both tuples, and in a wheel: plain mathematics. -/
namespace Go.Proofs.Ytofpalmghdapkaa
set_option linter.unusedVariables false

/-- a right table of m keys, and what it has. -/
structure TabG (t : List Cl) (N m : Nat) (P : Tp → Int → Prop) : Prop where
  right : RightC t
  len : t.length = N
  used : usedN t = m
  has : ∀ k n, HasC t k n ↔ P k n
section
variable {t : List Cl} {N m : Nat} {P P' : Tp → Int → Prop}
theorem TabG.iff (h : TabG t N m P) (e : ∀ k n, P k n ↔ P' k n) : TabG t N m P' := ⟨h.right, h.len, h.used, fun k n => (h.has k n).trans (e k n)⟩
theorem TabG.new (h : sizeC N = true) : newC (N : Int) = (List.replicate N cl0, 0) ∧ TabG (List.replicate N cl0) N 0 (fun _ _ => False) := by
  obtain ⟨h1, h2, h3⟩ := right_new h
  refine ⟨?_, h1, List.length_replicate, h2, fun k n => ⟨fun x => h3 k n x, fun x => x.elim⟩⟩
  unfold newC
  rw [show ((N : Int)).toNat = N from rfl, if_pos ⟨by omega, h⟩]
theorem TabG.get (h : TabG t N m P) {k : Tp} {n : Int} (hp : P k n) : getC t k = (n, true) := get_has h.right ((h.has k n).2 hp)
theorem TabG.none (h : TabG t N m P) {k : Tp} (hp : ∀ n, ¬ P k n) : getC t k = (0, false) := get_not h.right (fun n x => hp n ((h.has k n).1 x))
theorem TabG.put (h : TabG t N m P) {k : Tp} (n : Int) (hk : rightT k = true) (hp : ∀ n, ¬ P k n) (hm : m + 1 < N) : ∃ T, putC t k n = (T, 0) ∧ TabG T N (m + 1) (fun k' n' => (k' = k ∧ n' = n) ∨ P k' n') := by
  obtain ⟨p1, p2⟩ := put_ok h.right n hk (seek_not h.right (fun n x => hp n ((h.has k n).1 x))) (by rw [h.used, h.len]; exact hm)
  exact ⟨_, p1, p2.right, by rw [p2.len]; exact h.len, by rw [p2.used, h.used], fun k' n' => (p2.has k' n').trans (or_congr Iff.rfl (h.has k' n'))⟩
theorem TabG.del (h : TabG t N (m + 1) P) {k : Tp} {n : Int} (hp : P k n) : ∃ T, delC t k = (T, 0) ∧ TabG T N m (fun k' n' => P k' n' ∧ k' ≠ k) := by
  obtain ⟨p1, p2⟩ := del_ok h.right (seek_has h.right ((h.has k n).2 hp)).1
  exact ⟨_, p1, p2.right, by rw [p2.len]; exact h.len, by have := p2.used; rw [h.used] at this; omega, fun k' n' => (p2.has k' n').trans (and_congr (h.has k' n') Iff.rfl)⟩
end
/-- the keys of slots: both tuples, with twice the number, one more for Back. -/
def KeyF (l : List (Option Fl)) (k : Tp) (n : Int) : Prop := ∃ (i : Nat) (f : Fl), slotF l i = some f ∧ ((k = f.there ∧ n = 2 * (i : Int)) ∨ (k = f.back ∧ n = 2 * (i : Int) + 1))
def cntF (l : List (Option Fl)) : Nat := l.countP (·.isSome)
theorem cnt_le (l : List (Option Fl)) : cntF l ≤ l.length := List.countP_le_length
theorem cnt_all (l : List (Option Fl)) : (allF l).length = cntF l := by
  unfold allF cntF
  induction l with
  | nil => rfl
  | cons o t ih => cases o <;> simp [ih]
theorem cnt_set {l : List (Option Fl)} {i : Nat} (h : i < l.length) (o : Option Fl) : cntF (l.set i o) + (if (slotF l i).isSome then 1 else 0) = cntF l + (if o.isSome then 1 else 0) := by
  unfold cntF
  rw [slot_get h]
  induction l generalizing i with
  | nil => simp at h
  | cons a t ih =>
    cases i with
    | zero =>
      simp only [List.set_cons_zero, List.countP_cons, List.getElem_cons_zero]
      omega
    | succ i =>
      have := ih (i := i) (by simpa using h)
      simp only [List.set_cons_succ, List.countP_cons, List.getElem_cons_succ]
      omega
/-- a table that says what slots have. -/
def TabS (t : List Cl) (N : Nat) (l : List (Option Fl)) : Prop := TabG t N (2 * cntF l) (KeyF l)
theorem TabS.new {N room : Nat} (h : sizeC N = true) : newC (N : Int) = (List.replicate N cl0, 0) ∧ TabS (List.replicate N cl0) N (List.replicate room none) := by
  obtain ⟨h1, h2⟩ := TabG.new h
  have hn : ∀ i, slotF (List.replicate room (none : Option Fl)) i = none := fun i => by
    unfold slotF
    rw [List.getD_eq_getElem?_getD, List.getElem?_replicate]
    split <;> rfl
  have hc : cntF (List.replicate room (none : Option Fl)) = 0 := by
    unfold cntF
    rw [List.countP_eq_zero]
    intro o ho
    rw [(List.mem_replicate.1 ho).2]
    simp
  refine ⟨h1, ?_⟩
  unfold TabS
  rw [hc]
  exact h2.iff fun k n => ⟨fun x => x.elim, fun ⟨i, f, hf, _⟩ => by rw [hn] at hf; cases hf⟩
section
variable {t : List Cl} {N : Nat} {s : Sr}
/-- what a table says of a tuple. -/
theorem TabS.find (h : TabS t N s.slots) (r : RightS s) (k : Tp) : (findF s.slots k = none ∧ getC t k = (0, false)) ∨ ∃ (i : Nat) (f : Fl), findF s.slots k = some i ∧ slotF s.slots i = some f ∧ ((f.there = k ∧ getC t k = (2 * (i : Int), true)) ∨ (f.there ≠ k ∧ f.back = k ∧ getC t k = (2 * (i : Int) + 1, true))) := by
  cases hf : findF s.slots k with
  | none =>
    refine .inl ⟨rfl, TabG.none h fun n hn => ?_⟩
    obtain ⟨i, f, hs, hk⟩ := hn
    have := findF_none hf i f hs
    rcases hk with ⟨e, _⟩ | ⟨e, _⟩
    · exact this.1 e.symm
    · exact this.2 e.symm
  | some i =>
    obtain ⟨f, hs, hk⟩ := findF_some hf
    refine .inr ⟨i, f, rfl, hs, ?_⟩
    by_cases e : f.there = k
    · exact .inl ⟨e, TabG.get h ⟨i, f, hs, .inl ⟨e.symm, rfl⟩⟩⟩
    · have e2 : f.back = k := hk.resolve_left e
      exact .inr ⟨e, e2, TabG.get h ⟨i, f, hs, .inr ⟨e2.symm, rfl⟩⟩⟩
theorem TabS.findS (h : TabS t N s.slots) (r : RightS s) (k : Tp) : ∃ n o, getC t k = (n, o) ∧ ((o = false ∧ n = 0 ∧ findS s k = (0, false, false)) ∨ (o = true ∧ ∃ i : Nat, (n = 2 * (i : Int) ∧ findS s k = ((i : Int), false, true)) ∨ (n = 2 * (i : Int) + 1 ∧ findS s k = ((i : Int), true, true)))) := by
  rcases h.find r k with ⟨h1, h2⟩ | ⟨i, f, h1, h2, ⟨e, h3⟩ | ⟨e, e2, h3⟩⟩
  · exact ⟨0, false, h2, .inl ⟨rfl, rfl, by unfold Go.Proofs.Ytofpalmghdapkaa.findS; rw [h1]⟩⟩
  · refine ⟨_, true, h3, .inr ⟨rfl, i, .inl ⟨rfl, ?_⟩⟩⟩
    unfold Go.Proofs.Ytofpalmghdapkaa.findS
    rw [h1]
    dsimp only
    rw [h2, Option.getD_some, (sameTp_iff _ _).2 e]
    rfl
  · refine ⟨_, true, h3, .inr ⟨rfl, i, .inr ⟨rfl, ?_⟩⟩⟩
    unfold Go.Proofs.Ytofpalmghdapkaa.findS
    rw [h1]
    dsimp only
    rw [h2, Option.getD_some]
    cases hs : sameTp f.there k
    · rfl
    · exact absurd ((sameTp_iff _ _).1 hs) e
/-- a flow's keys, where its slot gets another one. -/
theorem key_set {l : List (Option Fl)} {i : Nat} (hi : i < l.length) (o : Option Fl) (k : Tp) (n : Int) : KeyF (l.set i o) k n ↔ (∃ f, o = some f ∧ ((k = f.there ∧ n = 2 * (i : Int)) ∨ (k = f.back ∧ n = 2 * (i : Int) + 1))) ∨ ∃ (j : Nat) (f : Fl), j ≠ i ∧ slotF l j = some f ∧ ((k = f.there ∧ n = 2 * (j : Int)) ∨ (k = f.back ∧ n = 2 * (j : Int) + 1)) := by
  constructor
  · rintro ⟨j, f, hj, hk⟩
    rw [slot_set hi] at hj
    by_cases e : i = j
    · subst e
      rw [if_pos rfl] at hj
      exact .inl ⟨f, hj, hk⟩
    · rw [if_neg e] at hj
      exact .inr ⟨j, f, fun q => e q.symm, hj, hk⟩
  · rintro (⟨f, rfl, hk⟩ | ⟨j, f, hj, hs, hk⟩)
    · exact ⟨i, f, by rw [slot_set hi, if_pos rfl], hk⟩
    · exact ⟨j, f, by rw [slot_set hi, if_neg (fun q => hj q.symm)]; exact hs, hk⟩
/-- both tuples of a new flow are put. -/
theorem TabS.add (h : TabS t N s.slots) (r : RightS s) {i : Nat} {f : Fl} (hm : mayF f = true) (h1 : findF s.slots f.there = none) (h2 : findF s.slots f.back = none) (hf : freeF s.slots = some i) (hN : 2 * s.slots.length < N) :
    ∃ T1 T2, putC t f.there (2 * (i : Int)) = (T1, 0) ∧ putC T1 f.back (2 * (i : Int) + 1) = (T2, 0) ∧ T1.length = N ∧ TabS T2 N (s.slots.set i (some f)) := by
  obtain ⟨m1, m2, m3, _⟩ := (mayF_iff f).1 hm
  obtain ⟨hi, hn, _⟩ := freeF_some hf
  have hc := cnt_set hi (some f)
  rw [hn] at hc
  have hc' : cntF (s.slots.set i (some f)) = cntF s.slots + 1 := by simpa using hc
  have hcl : cntF s.slots + 1 ≤ s.slots.length := by
    have := cnt_le (s.slots.set i (some f))
    rw [List.length_set, hc'] at this
    exact this
  have hno : ∀ k, findF s.slots k = none → ∀ n, ¬ KeyF s.slots k n := fun k hk n ⟨j, g, hs, hkk⟩ => by
    have := findF_none hk j g hs
    rcases hkk with ⟨e, _⟩ | ⟨e, _⟩
    · exact this.1 e.symm
    · exact this.2 e.symm
  obtain ⟨T1, p1, g1⟩ := TabG.put h (2 * (i : Int)) m1 (hno _ h1) (by omega)
  obtain ⟨T2, p2, g2⟩ := TabG.put g1 (2 * (i : Int) + 1) m2 (fun n hn => hn.elim (fun q => m3 q.1.symm) (hno _ h2 n)) (by omega)
  refine ⟨T1, T2, p1, p2, g1.len, ?_⟩
  unfold TabS
  rw [hc']
  refine TabG.iff (m := 2 * (cntF s.slots + 1)) (by have := g2; rwa [show 2 * cntF s.slots + 1 + 1 = 2 * (cntF s.slots + 1) by omega] at this) fun k n => ?_
  rw [key_set hi]
  constructor
  · rintro (⟨e1, e2⟩ | ⟨e1, e2⟩ | ⟨j, g, hs, hk⟩)
    · exact .inl ⟨f, rfl, .inr ⟨e1, e2⟩⟩
    · exact .inl ⟨f, rfl, .inl ⟨e1, e2⟩⟩
    · exact .inr ⟨j, g, (fun q => by rw [q, hn] at hs; cases hs), hs, hk⟩
  · rintro (⟨g, e, hk⟩ | ⟨j, g, hj, hs, hk⟩)
    · cases e
      exact hk.elim (fun q => .inr (.inl q)) .inl
    · exact .inr (.inr ⟨j, g, hs, hk⟩)
/-- both tuples of a flow are taken out. -/
theorem TabS.take {l : List (Option Fl)} (h : TabS t N l) (ra : ∀ i j f g, slotF l i = some f → slotF l j = some g → i ≠ j → f.there ≠ g.there ∧ f.there ≠ g.back ∧ f.back ≠ g.there ∧ f.back ≠ g.back) {i : Nat} {f : Fl} (hs : slotF l i = some f) (hne : f.there ≠ f.back) :
    ∃ T1 T2, delC t f.there = (T1, 0) ∧ delC T1 f.back = (T2, 0) ∧ T1.length = N ∧ TabS T2 N (l.set i none) := by
  have hi := slot_lt hs
  have hc := cnt_set hi none
  rw [hs] at hc
  have hc' : cntF (l.set i none) + 1 = cntF l := by simpa using hc
  have h' : TabG t N (2 * cntF (l.set i none) + 1 + 1) (KeyF l) := by have := h; unfold TabS at this; rwa [← hc', show 2 * (cntF (l.set i none) + 1) = 2 * cntF (l.set i none) + 1 + 1 by omega] at this
  obtain ⟨T1, p1, g1⟩ := TabG.del h' (k := f.there) ⟨i, f, hs, .inl ⟨rfl, rfl⟩⟩
  obtain ⟨T2, p2, g2⟩ := TabG.del g1 (k := f.back) ⟨⟨i, f, hs, .inr ⟨rfl, rfl⟩⟩, fun e => hne e.symm⟩
  refine ⟨T1, T2, p1, p2, g1.len, TabG.iff g2 fun k n => ?_⟩
  rw [key_set hi]
  constructor
  · rintro ⟨⟨⟨j, g, hj, hk⟩, n1⟩, n2⟩
    refine .inr ⟨j, g, fun q => ?_, hj, hk⟩
    subst q
    rw [hs] at hj
    cases hj
    exact hk.elim (fun q => n1 q.1) (fun q => n2 q.1)
  · rintro (⟨g, e, _⟩ | ⟨j, g, hj, hg, hk⟩)
    · cases e
    · have ha := ra j i g f hg hs hj
      refine ⟨⟨⟨j, g, hg, hk⟩, fun q => ?_⟩, fun q => ?_⟩
      · rcases hk with ⟨e, _⟩ | ⟨e, _⟩
        · exact ha.1 (e.symm.trans q)
        · exact ha.2.2.1 (e.symm.trans q)
      · rcases hk with ⟨e, _⟩ | ⟨e, _⟩
        · exact ha.2.1 (e.symm.trans q)
        · exact ha.2.2.2 (e.symm.trans q)
/-- a flow of the same tuples in its place. -/
theorem TabS.same {l : List (Option Fl)} (h : TabS t N l) {i : Nat} {f f' : Fl} (hs : slotF l i = some f) (e1 : f'.there = f.there) (e2 : f'.back = f.back) : TabS t N (l.set i (some f')) := by
  have hi := slot_lt hs
  have hc := cnt_set hi (some f')
  rw [hs] at hc
  have hc' : cntF (l.set i (some f')) = cntF l := by simpa using hc
  unfold TabS
  rw [hc']
  refine TabG.iff h fun k n => ?_
  rw [key_set hi]
  constructor
  · rintro ⟨j, g, hj, hk⟩
    by_cases e : j = i
    · subst e
      rw [hs] at hj
      cases hj
      exact .inl ⟨f', rfl, by rw [e1, e2]; exact hk⟩
    · exact .inr ⟨j, g, e, hj, hk⟩
  · rintro (⟨g, e, hk⟩ | ⟨j, g, hj, hg, hk⟩)
    · cases e
      rw [e1, e2] at hk
      exact ⟨i, f, hs, hk⟩
    · exact ⟨j, g, hg, hk⟩
end
/-- a wheel of the flows' times. -/
structure WhS (x : Wh) (s : Sr) : Prop where
  perm : (alF s.slots).Perm x.list
  now : x.now = s.now
  right : RightW x
theorem alF_once (l : List (Option Fl)) : OnceA (alF l) := by
  rw [alF_alG]
  generalize 0 = s
  induction l generalizing s with
  | nil => exact List.Pairwise.nil
  | cons o t ih =>
    cases o with
    | none => exact ih (s + 1)
    | some f =>
      refine List.pairwise_cons.2 ⟨fun a ha => ?_, ih (s + 1)⟩
      obtain ⟨j, g, _, rfl⟩ := alG_mem.1 ha
      dsimp only
      omega
theorem alF_find {l : List (Option Fl)} {i : Nat} {f : Fl} (h : slotF l i = some f) : ∃ p, ∃ hp : p < (alF l).length, findH (alF l) (i : Int) = some p ∧ (alF l)[p] = ⟨(i : Int), f.until_⟩ :=
  (alF_once l).find (a := ⟨(i : Int), f.until_⟩) (alF_mem.2 ⟨i, f, h, rfl⟩)
theorem alF_not {l : List (Option Fl)} {i : Nat} (h : slotF l i = none) : findH (alF l) (i : Int) = none := by
  refine find_not fun a ha e => ?_
  obtain ⟨j, f, hj, rfl⟩ := alF_mem.1 ha
  have : j = i := by have : (j : Int) = (i : Int) := e; omega
  rw [this, h] at hj
  cases hj
theorem alF_free {l : List (Option Fl)} {i : Nat} {f : Fl} (hi : i < l.length) (h : slotF l i = none) : (alF (l.set i (some f))).Perm (alF l ++ [⟨(i : Int), f.until_⟩]) := by
  obtain ⟨l1, l2, e1, e2⟩ := alF_cut (l := l.set i (some f)) (p := i) (f := f) (by rw [slot_set hi, if_pos rfl])
  rw [List.set_set, alF_none h] at e2
  rw [e1, e2]
  refine List.perm_middle.trans ?_
  exact (List.perm_append_comm (l₁ := [_]))
theorem alF_again {l : List (Option Fl)} {i : Nat} {f g : Fl} (h : slotF l i = some f) : ∃ p, findH (alF l) (i : Int) = some p ∧ (alF (l.set i (some g))).Perm ((alF l).set p ⟨(i : Int), g.until_⟩) := by
  have hi := slot_lt h
  obtain ⟨p, hp, h1, h2⟩ := alF_find h
  refine ⟨p, h1, ?_⟩
  have q1 := alF_free (l := l.set i none) (i := i) (f := g) (by rw [List.length_set]; exact hi) (by rw [slot_set hi, if_pos rfl])
  rw [List.set_set] at q1
  refine q1.trans ?_
  refine List.Perm.trans ?_ (set_perm hp _).symm
  refine (List.perm_append_comm (l₂ := [_])).trans ?_
  refine List.Perm.cons _ ?_
  obtain ⟨l1, l2, e1, e2⟩ := alF_cut h
  have q2 : (alF l).Perm (⟨(i : Int), f.until_⟩ :: alF (l.set i none)) := by rw [e1, e2]; exact List.perm_middle
  have q3 := cut_perm hp
  rw [h2] at q3
  exact (q2.symm.trans q3).cons_inv
theorem alF_drop {l : List (Option Fl)} {i : Nat} {f : Fl} (h : slotF l i = some f) : ∃ p, findH (alF l) (i : Int) = some p ∧ (atA (alF l) p :: alF (l.set i none)).Perm (alF l) := by
  obtain ⟨p, hp, h1, h2⟩ := alF_find h
  obtain ⟨l1, l2, e1, e2⟩ := alF_cut h
  refine ⟨p, h1, ?_⟩
  rw [atA_get hp, h2, e2, e1]
  exact List.perm_middle.symm
theorem alG_left (now : Int) : ∀ (l : List (Option Fl)) (s : Nat), leftA (alG s l) now = alG s (l.map (stays now))
  | [], s => rfl
  | none :: t, s => by
    rw [List.map_cons, show stays now none = none from rfl, alG, alG]
    exact alG_left now t (s + 1)
  | some f :: t, s => by
    have ih := alG_left now t (s + 1)
    rw [List.map_cons, alG]
    unfold leftA at ih ⊢
    rw [List.filter_cons]
    by_cases h : f.until_ ≤ now
    · have e : stays now (some f) = none := by unfold stays; rw [Option.filter_some, if_neg (by simp; omega)]
      rw [e, alG, if_neg (by simp [isDue]; omega)]
      exact ih
    · have e : stays now (some f) = some f := by unfold stays; rw [Option.filter_some, if_pos (by simp; omega)]
      rw [e, alG, if_pos (by simp [isDue]; omega), ih]
theorem alF_left (l : List (Option Fl)) (now : Int) : leftA (alF l) now = alF (l.map (stays now)) := by rw [alF_alG, alF_alG, alG_left]
section
variable {x : Wh} {s : Sr}
theorem WhS.new {room : Int} (h : newS room = some s) : WhS wh0 s := by
  obtain ⟨_, _, h2, h3⟩ := RightS.new h
  refine ⟨?_, h2.symm, right_wh0⟩
  have : alF s.slots = [] := by
    rw [List.eq_nil_iff_forall_not_mem]
    intro a ha
    obtain ⟨j, f, hj, _⟩ := alF_mem.1 ha
    rw [h3] at hj
    cases hj
  rw [this]
theorem WhS.add (h : WhS x s) (r : RightS s) {i : Nat} {f : Fl} (hi : i < s.slots.length) (hn : slotF s.slots i = none) (hu : s.now < f.until_) (hm : f.until_ ≤ 1099511627776) : ∃ X, setH x (i : Int) f.until_ = (X, 0) ∧ WhS X ⟨s.slots.set i (some f), s.now⟩ := by
  have hr := r.room
  have hn0 := h.now
  have hl : (alF s.slots).length < 256 := by
    have h1 := alF_length (s.slots.set i (some f))
    have h2 := (alF_free (f := f) hi hn).length_eq
    rw [List.length_append, List.length_set] at *
    simp at h2
    omega
  obtain ⟨X, hX, hp⟩ := set_new h.perm (n := (i : Int)) (t := f.until_) ⟨by omega, by omega, by omega, hm⟩ (by rw [hn0]; exact r.now0) (alF_not hn) hl (alF_free (f := f) hi hn)
  have hR := h.right.set (i : Int) f.until_
  rw [hX] at hR
  exact ⟨_, hX, hp, hn0, hR⟩
theorem WhS.set (h : WhS x s) (r : RightS s) {i : Nat} {f g : Fl} (hs : slotF s.slots i = some f) (hu : s.now < g.until_) (hm : g.until_ ≤ 1099511627776) : ∃ X, setH x (i : Int) g.until_ = (X, 0) ∧ WhS X ⟨s.slots.set i (some g), s.now⟩ := by
  have hr := r.room
  have hn0 := h.now
  have hi := slot_lt hs
  obtain ⟨p, h1, h2⟩ := alF_again (g := g) hs
  obtain ⟨X, hX, hp⟩ := set_again h.perm h.right.once (n := (i : Int)) (t := g.until_) ⟨by omega, by omega, by omega, hm⟩ (by rw [hn0]; exact r.now0) h1 h2
  have hR := h.right.set (i : Int) g.until_
  rw [hX] at hR
  exact ⟨_, hX, hp, hn0, hR⟩
theorem WhS.drop (h : WhS x s) {i : Nat} {f : Fl} (hs : slotF s.slots i = some f) : ∃ X, dropH x (i : Int) = (X, 0) ∧ WhS X ⟨s.slots.set i none, s.now⟩ := by
  obtain ⟨p, h1, h2⟩ := alF_drop hs
  obtain ⟨X, hX, hp⟩ := drop_some h.perm h.right.once h1 h2
  have hR := h.right.drop (i : Int)
  rw [hX] at hR
  exact ⟨_, hX, hp, h.now, hR⟩
theorem WhS.tick (h : WhS x s) {now : Int} (h0 : s.now ≤ now) (h1 : now ≤ 1099511627776) : ∃ X, tickH x now = (X, numsA (dueA (alF s.slots) now), 0) ∧ WhS X ⟨s.slots.map (stays now), now⟩ := by
  have hn0 := h.now
  refine ⟨⟨leftA x.list now, now⟩, ?_, ?_, rfl, ?_⟩
  · unfold tickH
    rw [if_neg (by omega), due_eq h.perm]
  · dsimp only
    rw [← alF_left]
    exact left_perm h.perm now
  · have := h.right.tick now
    unfold tickH at this
    rw [if_neg (by omega)] at this
    exact this
theorem WhS.tick_no (h : WhS x s) {now : Int} (h0 : now < s.now ∨ now > 1099511627776) : tickH x now = (x, [], 1) := by
  have hn0 := h.now
  unfold tickH
  rw [if_pos (by omega)]
theorem WhS.len (h : WhS x s) : x.list.length = (allF s.slots).length := by
  rw [← h.perm.length_eq, cnt_all, alF_alG]
  generalize 0 = k
  unfold cntF
  induction s.slots generalizing k with
  | nil => rfl
  | cons o t ih =>
    cases o with
    | none => rw [alG, ih]; simp
    | some f => rw [alG, List.length_cons, ih]; simp
end
end Go.Proofs.Ytofpalmghdapkaa

/- Tables of keys in memory. -/
namespace Go.Proofs.Ytofpalmghdapkaa
open Go.ChangeShapes Go.WideShapes Go.ChangeAt Go.RowKit
set_option linter.unusedVariables false
set_option linter.unusedSimpArgs false

def Cl.L (c : Cl) : List Value := [.bool c.used, .int .i64 c.key.proto, .int .u32 c.key.src, .int .i64 c.key.sport, .int .u32 c.key.dst, .int .i64 c.key.dport, .int .i64 c.num]
abbrev clL (c : Cl) : List Value := [.bool c.used, .int .i64 c.key.proto, .int .u32 c.key.src, .int .i64 c.key.sport, .int .u32 c.key.dst, .int .i64 c.key.dport, .int .i64 c.num]
abbrev clV (c : Cl) : Value := .agg #[.bool c.used, .int .i64 c.key.proto, .int .u32 c.key.src, .int .i64 c.key.sport, .int .u32 c.key.dst, .int .i64 c.key.dport, .int .i64 c.num]
abbrev oCl (c : Cl) : Obj := .cells #[.bool c.used, .int .i64 c.key.proto, .int .u32 c.key.src, .int .i64 c.key.sport, .int .u32 c.key.dst, .int .i64 c.key.dport, .int .i64 c.num] 100
theorem Cl.len (c : Cl) : c.L.length = 7 := rfl
theorem info_cl : (Try.prog.info? 100).map (·.size) = some 7 := by kernel_rfl
theorem info_clz : (Try.prog.info? 100).map (fun i => (i.zero, i.size, i.bytes)) = some (some (.agg #[.bool false, .int .i64 0, .int .u32 0, .int .i64 0, .int .u32 0, .int .i64 0, .int .i64 0]), 7, 56) := by kernel_rfl
theorem cl_one (l : List Cl) : ∀ u ∈ l.flatMap Cl.L, u.oneCell' = true := fun u hu => by
  obtain ⟨e, _, he⟩ := List.mem_flatMap.1 hu
  simp only [Cl.L, List.mem_cons, List.not_mem_nil, or_false] at he
  rcases he with rfl | rfl | rfl | rfl | rfl | rfl | rfl <;> rfl
/-- a table in memory. -/
structure CsAt (w : World) (l : List Cl) (A : Option Addr) (c : Nat) : Prop where
  len : l.length ≤ c
  cap : c ≤ 9223372036854775807
  nil : A = none → c = 0
  rng : ∀ i, RngTp (atC l i).key
  rd : RdC w A (l.flatMap Cl.L)
section
variable {w w' : World} {l : List Cl} {A : Option Addr} {c : Nat}
theorem CsAt.at (h : CsAt w l A c) (y : Below w.heap.size w w') : CsAt w' l A c := ⟨h.len, h.cap, h.nil, h.rng, h.rd.keep y⟩
/-- a place of the table. -/
theorem CsAt.cell (h : CsAt w l A c) {i : Nat} (hi : i < l.length) : ∃ ad, A = some ad ∧ ∀ Y, Below w.heap.size w Y → ∀ j v, (clL (atC l i))[j]? = some v → Y.cell? ((ad.add (i * 7)).add j) = some v := by
  rcases h.rd with h0 | ⟨ad, e, hc⟩
  · have := flat_len Cl.L 7 Cl.len l
    rw [h0] at this
    simp at this
    omega
  · refine ⟨ad, e, fun Y y j v hv => ?_⟩
    have hj : j < 7 := by have := (List.getElem?_eq_some_iff.1 hv).1; simpa using this
    have h1 : (l.flatMap Cl.L)[i * 7 + j]? = some v := by
      rw [flat_get Cl.L 7 Cl.len l i j hi hj, ← atC_get hi]; exact hv
    have h2 := hc _ _ h1
    rw [add_add]
    exact (y.cell (World.block_lt_of_cell? w _ h2)).trans h2
end
theorem rng_cl0 : RngTp cl0.key := ⟨by decide, by decide, by decide, by decide⟩
set_option maxRecDepth 100000 in
theorem eqInCl (m n : Cl) (w : World) : (Op.equalIn 10000 100 (clV m) (clV n)).run Try.prog w = .ok (sameCl m n) w := by
  have hS : Try.prog.underlying 100 = some (.struct (Try.prog.fieldsOf 100)) := by kernel_rfl
  have hp : Try.prog.stoodInHeld 100 = false := by kernel_rfl
  have hS2 : Try.prog.underlying 38 = some (.struct (Try.prog.fieldsOf 38)) := by kernel_rfl
  have hp2 : Try.prog.stoodInHeld 38 = false := by kernel_rfl
  have u3 := Try.underlying3
  have u4 := Try.underlying36
  have u5 := Try.underlying4
  have a3 := Try.isAgg3
  have z3 := Try.sizeOf3
  have a4 := Try.isAgg36
  have z4 := Try.sizeOf36
  have a5 := Try.isAgg4
  have z5 := Try.sizeOf4
  have a6 := Try.isAgg38
  have z6 := Try.sizeOf38
  rw [show (10000 : Nat) = 9999 + 1 from rfl, run_equalIn_agg w 9999 100 _ _ hS hp]
  simp only [Program.fieldsOf, Try.underlying100]
  obtain ⟨m1, ⟨m2, m3, m4, m5, m6⟩, m7⟩ := m
  obtain ⟨n1, ⟨n2, n3, n4, n5, n6⟩, n7⟩ := n
  unfold sameCl
  dsimp only
  have q := fun W => eqInTpD 9997 ⟨m2, m3, m4, m5, m6⟩ ⟨n2, n3, n4, n5, n6⟩ W
  simp only [Op.eqFields]
  go_simp
  generalize sameTp ⟨m2, m3, m4, m5, m6⟩ ⟨n2, n3, n4, n5, n6⟩ = s
  by_cases h1 : m1 = n1 <;> by_cases h7 : m7 = n7 <;> cases s <;> simp [h1, h7]
theorem eqCl (m n : Cl) (w : World) : (binOp .eql 100 (clV m) (clV n)).run Try.prog w = .ok (.bool (sameCl m n)) w := by
  rw [run_eql_struct, eqInCl]; rfl
theorem neCl (m n : Cl) (w : World) : (binOp .neq 100 (clV m) (clV n)).run Try.prog w = .ok (.bool (!sameCl m n)) w := by
  rw [run_neq_struct, eqInCl]; rfl
end Go.Proofs.Ytofpalmghdapkaa
