/- Lemmas, several texts in one. -/
import Derived.Deep.RegionHeld3
import Derived.Test.YtmblkgnjcmneeaaQ16
import Derived.Test.YtmblkgnjcmneeaaQ14
import Derived.Test.YtmblkgnjcmneeaaQ15
import Derived.Test.YtmblkgnjcmneeaaQ04
import Derived.Lib.SliceRun
import Derived.Test.YtmblkgnjcmneeaaQ01
import Derived.Deep.DeepCutAuto
import Derived.Carry
import Derived.ProofKit
import Derived.OpenShut
import Derived.ChangeSlices
import Derived.Deep.Fields
import Derived.Test.YtmblkgnjcmneeaaQ03
import Derived.Test.YtmblkgnjcmneeaaRows
/- The contract of package cut's list, with the pieces of a plan. -/
namespace Go.Proofs.Ytmblkgnjcmneeaa
open Go.ChangeShapes Go.WideShapes Go.ChangeAt Go.RowKit
set_option linter.unusedVariables false
set_option linter.unusedSimpArgs false

/-- nothing, as an element of a row. -/
abbrev ep0 : Ep := ⟨pk0, none, 0, none, 0⟩
theorem made_flat (m : Nat) : (madeCells (Value.agg #[.int .i64 0, .int .i64 0, .bool false, .bool false, .int .i64 0, .int .i64 0, .int .i64 0, .int .u32 0, .int .u32 0, .slice none 0 0, .slice none 0 0]).cells (m * 11)).toList = (List.replicate m ep0).flatMap Ep.L := by
  have e0 : (Value.agg #[.int .i64 0, .int .i64 0, .bool false, .bool false, .int .i64 0, .int .i64 0, .int .i64 0, .int .u32 0, .int .u32 0, .slice none 0 0, .slice none 0 0]).cells = ep0.L.toArray := rfl
  rw [e0]
  unfold madeCells
  refine List.ext_getElem? fun j => ?_
  by_cases hj : j < m * 11
  · have h1 : j / 11 < m := (Nat.div_lt_iff_lt_mul (by omega)).2 hj
    have h2 : j % 11 < 11 := Nat.mod_lt _ (by omega)
    have h3 := flat_get Ep.L 11 Ep.len (List.replicate m ep0) (j / 11) (j % 11) (by simpa using h1) h2
    rw [show j / 11 * 11 + j % 11 = j by rw [Nat.mul_comm]; exact Nat.div_add_mod j 11] at h3
    rw [h3]
    have h4 : j % 11 < ep0.L.length := h2
    simp [hj, List.getElem?_eq_getElem h4]
    show ep0.L[j % 11]?.getD default = _
    rw [List.getElem?_eq_getElem h4]
    rfl
  · have hl := flat_len Ep.L 11 Ep.len (List.replicate m ep0)
    rw [List.length_replicate] at hl
    rw [List.getElem?_eq_none (by rw [Array.length_toList, Array.size_map, Array.size_range]; omega), List.getElem?_eq_none (by rw [hl]; omega)]
section
variable {w W1 wr w2 w3 : World} {V : Nat → Prop} {p : Pk} {n m g k : Nat} {es : List Ep}
/-- while the pieces are put into a row. -/
structure LsI (w W1 : World) (V : Nat → Prop) (p : Pk) (n m g : Nat) (wr : World) (k : Nat) (es : List Ep) : Prop where
  below : Below w.heap.size w wr
  lt : ∀ b, V b → b < w.heap.size
  g0 : w.heap.size ≤ g
  g1 : g < W1.heap.size
  z : W1.heap.size ≤ wr.heap.size
  row : Bxo wr g 25 (es.flatMap Ep.L)
  len : es.length = m
  els : ∀ e ∈ es.take k, PkAt wr (growV V W1 wr) e.p e.Ao e.co e.Ab e.cb
  eq : (es.take k).map Ep.p = (List.range k).map (pieceAt p n m)
theorem PkAt.growCall {x : Pk} {Ao : Option Addr} {co : Nat} {Ab : Option Addr} {cb : Nat} (h : PkAt wr (growV V W1 wr) x Ao co Ab cb) (y : Below wr.heap.size wr w2) (lt : ∀ b, V b → b < wr.heap.size) : PkAt w2 (growV V W1 w2) x Ao co Ab cb :=
  ⟨h.s0, h.s1, h.d0, h.d1, h.o.call y lt, h.b.call y lt, fun b hb => by
    rcases hb with hb | hb
    · exact Nat.lt_of_lt_of_le (lt b hb) y.size
    · exact hb.2⟩
theorem PkAt.growOnly {x : Pk} {Ao : Option Addr} {co : Nat} {Ab : Option Addr} {cb : Nat} (h : PkAt w2 (growV V W1 w2) x Ao co Ab cb) (ho : Only g w2 w3) (hg : g < W1.heap.size) (hV : ¬ V g) : PkAt w3 (growV V W1 w3) x Ao co Ab cb :=
  ⟨h.s0, h.s1, h.d0, h.d1, h.o.only ho hg hV, h.b.only ho hg hV, fun b hb => by
    rw [ho.size]
    refine h.lt b ?_
    rcases hb with hb | hb
    · exact .inl hb
    · exact .inr ⟨hb.1, by have := ho.size; omega⟩⟩
theorem PkAt.growWide {W0 : World} {x : Pk} {Ao : Option Addr} {co : Nat} {Ab : Option Addr} {cb : Nat} (h : PkAt w2 (growV V W1 w2) x Ao co Ab cb) (hs : W0.heap.size ≤ W1.heap.size) (lt : ∀ b, growV V W0 w2 b → b < w2.heap.size) : PkAt w2 (growV V W0 w2) x Ao co Ab cb :=
  ⟨h.s0, h.s1, h.d0, h.d1, h.o.wide hs, h.b.wide hs, lt⟩
theorem LsI.put {e : Ep} (h : LsI w W1 V p n m g wr k es) (hk : k < m) (y : Below wr.heap.size wr w2) (he : PkAt w2 (growV V wr w2) e.p e.Ao e.co e.Ab e.cb) (hp : e.p = pieceAt p n m k) (ho : Only g w2 w3) (hb : Bxo w3 g 25 (spl (es.flatMap Ep.L) (k * 11) e.L)) : LsI w W1 V p n m g w3 (k + 1) (es.set k e) := by
  have hz := h.z
  have hy := y.size
  have hs := ho.size
  have hlt := h.lt
  have hw := h.below.size
  have hkl : k < es.length := by rw [h.len]; exact hk
  have hV : ¬ V g := fun hv => by have := hlt g hv; have := h.g0; omega
  have h1 : (es.set k e).take (k + 1) = es.take k ++ [e] := by
    rw [List.take_succ_eq_append_getElem (by simpa using hkl), List.take_set_of_le (Nat.le_refl k)]
    simp
  refine ⟨(h.below.trans (y.mono hw)).trans (ho.below h.g0), h.lt, h.g0, h.g1, by omega, by rw [← spl_flat Ep.L 11 Ep.len es k e hkl]; exact hb, by simpa using h.len, fun f hf => ?_, ?_⟩
  · rw [h1] at hf
    rcases List.mem_append.1 hf with hf | hf
    · exact ((h.els f hf).growCall y (fun b hv => by have := hlt b hv; omega)).growOnly ho h.g1 hV
    · obtain rfl := List.mem_singleton.1 hf
      exact (he.growWide hz (fun b hv => by
        rcases hv with hv | hv
        · have := hlt b hv; omega
        · exact hv.2)).growOnly ho h.g1 hV
  · rw [h1, List.map_append, h.eq, List.range_succ, List.map_append]
    simp [hp]
theorem LsI.own (h : LsI w W1 V p n m g wr m es) (hm : m ≤ maxLen) : OwnK wr w.heap.size (some ⟨g, 0, none⟩) m es := by
  have hl := flat_len Ep.L 11 Ep.len es
  have := h.len
  unfold OwnK
  exact own_shut h.row (by rw [hl, h.len]) (by rw [List.take_of_length_le (by rw [hl]; exact Nat.le_refl _)]) h.g0 (by omega) hm hl
end
set_option maxRecDepth 100000 in
set_option maxHeartbeats 16000000 in
theorem clist (p : Pk) (Ao : Option Addr) (co : Nat) (Ab : Option Addr) (cb : Nat) (n m : Nat) (l : List Pk) (w : World) (V : Nat → Prop) (hP : PlanR p l n m) (hp : PkAt w V p Ao co Ab cb) (ho : p.opts.length ≤ 16777216) :
    Calls Try.prog 19 #[.int .i64 m, .func (.func 20) #[plV p Ao co Ab cb n m] #[]] w fun e w' => ∃ A c es, e = .returned (.slice A m c) ∧ es.length = m ∧ es.map Ep.p = l ∧ OwnK w' w.heap.size A c es ∧ (∀ e ∈ es, PkAt w' (growV V w w') e.p e.Ao e.co e.Ab e.cb) ∧ Below w.heap.size w w' := by
  have HPK := Go.Lib.hid hp
  have HP := Go.Lib.hid hP
  have m1 := hP.m1
  have m2 := hP.m2
  clear hp hP
  obtain ⟨i0, hi, hz0, hz1, hz2⟩ := info_parts info_ipz
  go_enter Try.func19, Try.ntmps19
  go_upto_region 2 with (first
    | (at_make; refine wpList_make_full _ rfl _ _ 28 rfl w.heap.size 25 i0 _ 11 Try.underlying28 hi hz0 hz1 _ _ _ _ m rfl rfl rfl rfl (by rw [hz2]; omega) (by unfold maxLen; omega) (Nat.le_refl _) ?_; intro w1 ho1 hg1; rw [made_flat] at ho1; have HO1 := Go.Lib.hid ho1; have HG1 := Go.Lib.hid hg1; clear ho1 hg1))
  have HI : Hid (LsI w w1 V p n m w.heap.size w1 0 (List.replicate m ep0)) := Go.Lib.hid (by
    have y1 : Below w.heap.size w w1 := (Below.refl _ _).grown HG1.out (Nat.le_refl _) (fun k hk => by cases hk)
    obtain ⟨cur, c1, c2, c3, c4, c5, c6, c7⟩ := own_open HO1.out
    rw [List.take_of_length_le (by rw [c2]; exact Nat.le_refl _)] at c3
    subst c3
    exact ⟨y1, HPK.out.lt, Nat.le_refl _, c1.lt, Nat.le_refl _, c1, by simp, by simp, by simp⟩)
  clear HO1 HG1
  have hw1 := HI.out.below.size
  go_wp2_with fail
  go_loopw [11] (fun i wr => ∃ (k : Nat) (es : List Ep), k ≤ m ∧ i = .int .i64 k ∧ LsI w w1 V p n m w.heap.size wr k es) (fun i _ => m - (intOf i).toNat)
  case atStart => exact ⟨0, _, by omega, rfl, HI.out⟩
  case round =>
    rename World => wo
    clear HI
    obtain ⟨k, es, hk, rfl, hI⟩ := hrel
    have HI := Go.Lib.hid hI
    have g1 := hI.g1
    have gz := hI.z
    have hel := Go.Lib.hid hI.len
    clear hI
    by_cases hlt : k < m
    · have i1 : (0 : Int) ≤ (k : Int) := by omega
      have i2 : (k : Int) < (m : Int) := by omega
      have f1 : IntKind.i64.wrap ((k : Int) + 1) = (k : Int) + 1 := IntWalk.i64_in _ (by omega)
      go_wp2_with (first
        | (go_at_call 20; refine (ccutPiece p Ao co Ab cb n m k l wo V HP.out hlt (HPK.out.at HI.out.below) ho).mono ?_; rintro e w2 ⟨A2, c2, A3, c3, rfl, hp2, y2⟩; have HP2 := Go.Lib.hid hp2; have B2 := Go.Lib.hid (HI.out.row.keep y2 (by omega)); clear hp2; dsimp only)
        | (refine wpList_store_any rfl 25 _ _ rfl w.heap.size (k * 11) 25 _ (pkL (pieceAt p n m k) A2 c2 A3 c3) _ rfl rfl rfl B2.out info_pk (by rw [flat_len Ep.L 11 Ep.len, hel.out]; show k * 11 + 11 ≤ m * 11; omega) (ep_L1 ⟨pieceAt p n m k, A2, c2, A3, c3⟩) ?_; intro w3 hb3 ho3; have HI3 := Go.Lib.hid (HI.out.put (e := ⟨pieceAt p n m k, A2, c2, A3, c3⟩) hlt y2 HP2.out rfl ho3 hb3); clear hb3 ho3))
      exact ⟨⟨k + 1, _, by omega, rfl, HI3.out⟩, by simp [intOf]; omega⟩
    · obtain rfl : k = m := by omega
      go_wp2
      have htk : es.take k = es := List.take_of_length_le (by rw [hel.out]; exact Nat.le_refl _)
      refine bodyPost_ret (v := .slice (some ⟨w.heap.size, 0, none⟩) k k) ?_ rfl ⟨_, k, es, rfl, hel.out, ?_, HI.out.own (by unfold maxLen; omega), fun e he => (HI.out.els e (by rw [htk]; exact he)).growWide hw1 (grow_lt HPK.out.lt HI.out.below.size), HI.out.below⟩
      · simp [results, Try.results19, go_sem]
      · have h := HI.out.eq
        rw [htk] at h
        rw [h, HP.out.eq]
end Go.Proofs.Ytmblkgnjcmneeaa

/- The contracts of package cut's Cut and Most. -/
namespace Go.Proofs.Ytmblkgnjcmneeaa
open Go.ChangeShapes Go.WideShapes Go.ChangeAt Go.RowKit
set_option linter.unusedVariables false
set_option linter.unusedSimpArgs false

set_option maxRecDepth 100000 in
set_option maxHeartbeats 16000000 in
theorem ccut8 : CutC8 := by
  intro p Ao co Ab cb mtu w V l err hl hp ho hb
  have HL := Go.Lib.hid hl
  have y0 : Below w.heap.size w (w.alloc (oPk p Ao co Ab cb)) := (Below.refl _ _).alloc (Nat.le_refl _) _
  have h1 := Bxo.made w 25 (pkL p Ao co Ab cb)
  have HX := Go.Lib.hid (hp.at y0)
  have HP := Go.Lib.hid hp
  clear hp hl
  go_enter Try.func9, Try.ntmps9
  go_upto_region 1 with fail
  generalize w.alloc (oPk p Ao co Ab cb) = W at *
  have H1 := Go.Lib.hid h1
  clear h1
  go_upto_region 2 with (first
    | (refine wpList_load_box rfl 25 _ rfl w.heap.size rfl (pkL p Ao co Ab cb) _ H1.out Try.underlying25 rfl info_pk ?_)
    | (go_at_call 18; refine (cplanned p Ao co Ab cb mtu W V l err HL.out HX.out ho hb).mono ?_; rintro e w1 ⟨y1, ⟨he, hl0, rfl⟩ | ⟨he, n, m, hP, rfl⟩⟩ <;> dsimp only))
  · have tf : (err != 0) = true := by simpa using he
    have y2 : Below w.heap.size w (w1.alloc (oPl pk0 none 0 none 0 0 0)) := below_alloc (y0.trans (y1.mono y0.size)) (Nat.le_trans y0.size y1.size) _
    generalize w1.alloc (oPl pk0 none 0 none 0 0 0) = W2 at *
    generalize w1.heap.size = g at *
    clear he
    go_wp2
    refine bodyPost_ret (v := .tuple #[.slice none 0 0, .int .i64 err]) ?_ rfl (CutPost.none_ hl0 rfl y2)
    simp [results, Try.results9, go_sem]
  · have HPl := Go.Lib.hid hP
    have HE := Go.Lib.hid he
    have y2 : Below w.heap.size w (w1.alloc (oPl p Ao co Ab cb n m)) := below_alloc (y0.trans (y1.mono y0.size)) (Nat.le_trans y0.size y1.size) _
    have B2 := Go.Lib.hid (Bxo.made w1 50 (plL p Ao co Ab cb n m))
    have hmf : ∀ fn first cap w, (Instr.makeFunc fn first cap).run Try.prog w = .ok (.func fn first cap) w := fun _ _ _ _ => rfl
    clear hP he H1 HX
    have HX2 := Go.Lib.hid (HP.out.at y2)
    generalize (w1.alloc (.cells (plL p Ao co Ab cb n m).toArray 50)) = W2 at *
    generalize w1.heap.size = g at *
    have c12 := B2.out.cell 12 rfl
    go_wp2_with (first
      | (refine wpList_load_box rfl 50 _ rfl g rfl (plL p Ao co Ab cb n m) _ B2.out Try.underlying50 rfl info_pl ?_)
      | (go_at_call 19; refine (clist p Ao co Ab cb n m l W2 V HPl.out HX2.out ho).mono ?_; rintro e w3 ⟨A, c, es, rfl, hlen, hmap, hown, hels, y3⟩; have HS := Go.Lib.hid (And.intro hlen (And.intro hmap (And.intro hown hels))); clear hlen hmap hown hels; dsimp only))
    obtain ⟨hlen, hmap, hown, hels⟩ := HS.out
    have y4 := y2.trans (y3.mono y2.size)
    refine bodyPost_ret (v := .tuple #[.slice A m c, .int .i64 0]) ?_ rfl ⟨A, c, es, by rw [hlen, HE.out], hmap, hown.wide y2.size, fun e he => (hels e he).growWide y2.size (grow_lt HP.out.lt y4.size), y4⟩
    simp [results, Try.results9, go_sem]
set_option maxRecDepth 100000 in
set_option maxHeartbeats 16000000 in
theorem cmost8 : MostC8 := by
  intro p Ao co Ab cb mtu w V l err hl hp ho hb
  have HL := Go.Lib.hid hl
  have y0 : Below w.heap.size w (w.alloc (oPk p Ao co Ab cb)) := (Below.refl _ _).alloc (Nat.le_refl _) _
  have h1 := Bxo.made w 25 (pkL p Ao co Ab cb)
  have HX := Go.Lib.hid (hp.at y0)
  clear hp hl
  go_enter Try.func11, Try.ntmps11
  go_upto_region 1 with fail
  generalize w.alloc (oPk p Ao co Ab cb) = W at *
  have H1 := Go.Lib.hid h1
  clear h1
  go_upto_region 2 with (first
    | (refine wpList_load_box rfl 25 _ rfl w.heap.size rfl (pkL p Ao co Ab cb) _ H1.out Try.underlying25 rfl info_pk ?_)
    | (go_at_call 18; refine (cplanned p Ao co Ab cb mtu W V l err HL.out HX.out ho hb).mono ?_; rintro e w1 ⟨y1, ⟨he, hl0, rfl⟩ | ⟨he, n, m, hP, rfl⟩⟩ <;> dsimp only))
  · have y2 : Below w.heap.size w (w1.alloc (oPl pk0 none 0 none 0 0 0)) := below_alloc (y0.trans (y1.mono y0.size)) (Nat.le_trans y0.size y1.size) _
    have B2 := Go.Lib.hid (Bxo.made w1 50 (plL pk0 none 0 none 0 0 0))
    generalize (w1.alloc (.cells (plL pk0 none 0 none 0 0 0).toArray 50)) = W2 at *
    generalize w1.heap.size = g at *
    have c12 := B2.out.cell 12 rfl
    clear he
    go_wp2
    go_ret
    exact ⟨by rw [hl0]; rfl, y2⟩
  · have hlen := hP.len
    have y2 : Below w.heap.size w (w1.alloc (oPl p Ao co Ab cb n m)) := below_alloc (y0.trans (y1.mono y0.size)) (Nat.le_trans y0.size y1.size) _
    have B2 := Go.Lib.hid (Bxo.made w1 50 (plL p Ao co Ab cb n m))
    generalize (w1.alloc (.cells (plL p Ao co Ab cb n m).toArray 50)) = W2 at *
    generalize w1.heap.size = g at *
    have c12 := B2.out.cell 12 rfl
    clear he hP H1 HX
    have HLN := Go.Lib.hid hlen
    clear hlen
    go_wp2
    go_ret
    exact ⟨by rw [HLN.out]; rfl, y2⟩
end Go.Proofs.Ytmblkgnjcmneeaa

/- Contracts of the document's own answers for package ip: fits. -/
namespace Go.Proofs.Ytmblkgnjcmneeaa
open Go.ChangeShapes Go.WideShapes Go.ChangeAt Go.RowKit
set_option linter.unusedVariables false

set_option maxHeartbeats 1000000 in
theorem rfits (p : Pk) (Ao : Option Addr) (co : Nat) (Ab : Option Addr) (cb : Nat) (w : World) (ho : p.opts.length ≤ 16777216) (hb : p.body.length ≤ 16777216) (f0 : 0 ≤ p.off) (f1 : p.off ≤ 65528) :
    Calls Try.prog 41 #[pkV p Ao co Ab cb] w fun e w' => e = .returned (.bool (fitsB p)) ∧ Below w.heap.size w w' := by
  unfold fitsB
  have t1 : ((p.body.length : Int) == 0) = decide (p.body.length = 0) := by rw [Bool.eq_iff_iff]; simp
  go_enter Try.func41, Try.ntmps41
  go_wp2
  all_goals (go_ret; refine ⟨ret_bool ?_, (Below.refl _ _).alloc (Nat.le_refl _) _⟩)
  all_goals first | (simp [*]; done) | (simp; omega) | (rw [Bool.eq_iff_iff]; simp [*]; done) | (rw [Bool.eq_iff_iff]; simp [*]; omega) | (rw [Bool.eq_iff_iff]; simp; omega) | (have hx : 0 < p.body.length := List.length_pos_iff.2 (by assumption); have hy : p.body.length % 8 = 0 := (by omega); simp [*]; done)
end Go.Proofs.Ytmblkgnjcmneeaa

/- The contract of the document's own answer for package ip: Short. -/
namespace Go.Proofs.Ytmblkgnjcmneeaa
open Go.ChangeShapes Go.WideShapes Go.ChangeAt Go.RowKit
set_option linter.unusedVariables false

set_option maxHeartbeats 400000 in
theorem rshort (p : Pk) (Ao : Option Addr) (co : Nat) (Ab : Option Addr) (cb : Nat) (w : World) :
    Calls Try.prog 8 #[pkV p Ao co Ab cb] w fun e w' => e = .returned (.bool (decide (p.opts.length ≤ 100) && decide (p.body.length ≤ 3000))) ∧ Below w.heap.size w w' := by
  by_cases h1 : p.opts.length ≤ 100
  · by_cases h2 : p.body.length ≤ 3000
    · go_enter Try.func8, Try.ntmps8
      go_wp2
      go_ret
      exact ⟨ret_bool (by first | (simp [*]; done) | (simp; omega) | (rw [Bool.eq_iff_iff]; simp [*]; done) | (rw [Bool.eq_iff_iff]; simp [*]; omega) | (rw [Bool.eq_iff_iff]; simp; omega)), (Below.refl _ _).alloc (Nat.le_refl _) _⟩
    · go_enter Try.func8, Try.ntmps8
      go_wp2
      go_ret
      exact ⟨ret_bool (by first | (simp [*]; done) | (simp; omega) | (rw [Bool.eq_iff_iff]; simp [*]; done) | (rw [Bool.eq_iff_iff]; simp [*]; omega) | (rw [Bool.eq_iff_iff]; simp; omega)), (Below.refl _ _).alloc (Nat.le_refl _) _⟩
  · go_enter Try.func8, Try.ntmps8
    go_wp2
    go_ret
    exact ⟨ret_bool (by first | (simp [*]; done) | (simp; omega) | (rw [Bool.eq_iff_iff]; simp [*]; done) | (rw [Bool.eq_iff_iff]; simp [*]; omega) | (rw [Bool.eq_iff_iff]; simp; omega)), (Below.refl _ _).alloc (Nat.le_refl _) _⟩

end Go.Proofs.Ytmblkgnjcmneeaa

/- A statement of layer 8: pieces for a way are not cut again for it. -/
namespace Go.Proofs.Ytmblkgnjcmneeaa
open Go.ChangeShapes Go.WideShapes Go.ChangeAt Go.RowKit
set_option linter.unusedVariables false
set_option linter.unusedSimpArgs false

set_option maxRecDepth 100000 in
set_option maxHeartbeats 16000000 in
theorem cutOnce (kA : AwakeC8) (kC : CutC8) (kM : MostC8) (p : Pk) (Ao : Option Addr) (co : Nat) (Ab : Option Addr) (cb : Nat) (mtu more : Int) (w : World) (hp : PkIn w p Ao co Ab cb) :
    Calls Try.prog 6 #[pkV p Ao co Ab cb, .int .i64 mtu, .int .i64 more] w fun e w' => e = .returned (.bool true) ∧ Below w.heap.size w w' := by
  have HPK := Go.Lib.hid (pk_in hp)
  have q1 := hp.blen
  have q2 := hp.bcap
  clear hp
  have m0 : Bxo (w.alloc (oPk p Ao co Ab cb)) w.heap.size 25 (pkL p Ao co Ab cb) := Bxo.made w 25 (pkL p Ao co Ab cb)
  have b0 : Below w.heap.size w (w.alloc (oPk p Ao co Ab cb)) := (Below.refl _ _).alloc (Nat.le_refl _) _
  go_enter Try.func6, Try.ntmps6
  go_upto_region 1 with fail
  have M0 := Go.Lib.hid m0
  clear m0
  generalize w.alloc (oPk p Ao co Ab cb) = W at *
  go_upto_region 3 with (go_at_call 7; refine (kA W).mono ?_; rintro e w1 ⟨rfl, y1⟩; have M1 := Go.Lib.hid (M0.out.keep y1 M0.out.lt); have x1 := b0.trans (y1.mono b0.size); clear y1 M0 b0; dsimp only)
  have d10 := M1.out.cell 10 rfl
  obtain ⟨sb, hsb⟩ : ∃ b, (decide (p.opts.length ≤ 100) && decide (p.body.length ≤ 3000)) = b := ⟨_, rfl⟩
  have HSB := Go.Lib.hid hsb
  clear hsb
  cases sb
  · go_wp2_with (first
      | (refine wpList_load_box rfl 25 _ rfl w.heap.size rfl (pkL p Ao co Ab cb) _ M1.out Try.underlying25 rfl info_pk ?_)
      | (go_at_call 8; refine (rshort p Ao co Ab cb w1).mono ?_; rintro e w2 ⟨rfl, y2⟩; rw [HSB.out]; have M2 := Go.Lib.hid (M1.out.keep y2 M1.out.lt); have x2 := x1.trans (y2.mono x1.size); have d10' := M2.out.cell 10 rfl; clear y2; dsimp only))
    go_ret
    exact ⟨rfl, x2⟩
  · by_cases h1000 : p.body.length ≤ 1000
    · have hop : p.opts.length ≤ 100 := by have := HSB.out; simp only [Bool.and_eq_true, decide_eq_true_eq] at this; exact this.1
      obtain ⟨l, err, hl⟩ : ∃ l err, cutP p mtu = (l, err) := ⟨_, _, rfl⟩
      have HL := Go.Lib.hid hl
      clear hl
      have g1 : ¬ (1000 : Int) < (p.body.length : Int) := by omega
      go_upto_region 6 with (first
        | (refine wpList_load_box rfl 25 _ rfl w.heap.size rfl (pkL p Ao co Ab cb) _ M1.out Try.underlying25 rfl info_pk ?_)
        | (go_at_call 8; refine (rshort p Ao co Ab cb w1).mono ?_; rintro e w2 ⟨rfl, y2⟩; rw [HSB.out]; have M2 := Go.Lib.hid (M1.out.keep y2 M1.out.lt); have x2 := x1.trans (y2.mono x1.size); have d10' := M2.out.cell 10 rfl; clear y2; dsimp only)
        | (refine wpList_load_box rfl 25 _ rfl w.heap.size rfl (pkL p Ao co Ab cb) _ M2.out Try.underlying25 rfl info_pk ?_)
        | (go_at_call 9; refine (kC p Ao co Ab cb mtu w2 (oldV w) l err HL.out (HPK.out.at x2) (by omega) (by omega)).mono ?_; rintro e w4 ⟨A4, c4, es, rfl, hes, hrow, hels, y4⟩; have HES := Go.Lib.hid hes; have HROW := Go.Lib.hid hrow; have HELS := Go.Lib.hid hels; have M4 := Go.Lib.hid (M2.out.keep y4 M2.out.lt); have x4 := x2.trans (y4.mono x2.size); clear hes hrow hels; dsimp only))
      clear d10 d10' M1 x1
      by_cases h0 : err = 0
      · subst h0
        obtain ⟨n, hR⟩ := cutP_ok HL.out
        have HR := Go.Lib.hid hR
        clear hR
        have hlen : es.length = l.length := by have := congrArg List.length HES.out; simpa using this
        have HLEN := Go.Lib.hid hlen
        clear hlen
        have hec := HROW.out.cap
        have hec1 := hec.1
        have hec2 := hec.2
        clear hec
        go_upto_region 9 with fail
        go_loopw [9] (fun i wr => ∃ k : Nat, k ≤ es.length ∧ i = .int .i64 k ∧ Below w4.heap.size w4 wr) (fun i _ => es.length - (intOf i).toNat)
        case atStart => exact ⟨0, by omega, rfl, Below.refl _ _⟩
        case round =>
          obtain ⟨k, hk, rfl, yr⟩ := hrel
          by_cases hlt : k < es.length
          · obtain ⟨ad, rfl, hK⟩ := HROW.out.at_ hlt
            have HK := Go.Lib.hid (hK wr yr)
            have HE := Go.Lib.hid ((HELS.out es[k] (List.getElem_mem hlt)).at yr)
            have HC1 : Hid (cutP es[k].p mtu = ([es[k].p], 0)) := Go.Lib.hid (by
              have hkl : k < l.length := by have := HLEN.out; omega
              have e : es[k].p = l[k] := by
                have h1 : (es.map Ep.p)[k]? = l[k]? := by rw [HES.out]
                rw [List.getElem?_map, List.getElem?_eq_getElem hlt, List.getElem?_eq_getElem hkl] at h1
                simpa using h1
              rw [e]; exact HR.out.again hkl)
            have hsz : (es[k].p).opts.length ≤ 16777216 ∧ (es[k].p).body.length ≤ 16777216 := by
              obtain ⟨n2, h2⟩ := cutP_ok HC1.out
              have := h2.may.p40
              have := h2.may.fit
              have := h2.may.o0
              omega
            have xo := hsz.1
            have xb := hsz.2
            clear hK hsz
            generalize es[k] = e at *
            have i1 : (0 : Int) ≤ (k : Int) := by omega
            have i2 : (k : Int) < (es.length : Int) := by omega
            go_wp2_with (first
              | (refine wpList_load_pk rfl _ rfl (ad.add (k * 11)) rfl e.p e.Ao e.co e.Ab e.cb HK.out ?_)
              | (go_at_call 11; refine (most_n kM e.p e.Ao e.co e.Ab e.cb mtu wr _ [e.p] 0 1 rfl HC1.out HE.out xo xb).mono ?_; rintro e5 w5 ⟨rfl, y5⟩; have yr2 := yr.trans (y5.mono yr.size); dsimp only))
            go_round
            case rel => exact ⟨k + 1, by omega, by go_num, yr2⟩
            case measure => simp [intOf]; omega
          · have i2 : ¬ (k : Int) < (es.length : Int) := by omega
            obtain ⟨l2, err2, hl2⟩ : ∃ l2 err2, cutP p more = (l2, err2) := ⟨_, _, rfl⟩
            have HL2 := Go.Lib.hid hl2
            clear hl2
            have Mr := Go.Lib.hid (M4.out.keep yr M4.out.lt)
            have xr := x4.trans (yr.mono x4.size)
            have hcases : (l2.length = 0) ∨ (0 < l2.length ∧ (mtu ≤ more → l2.length ≤ es.length) ∧ (more ≤ mtu → es.length ≤ l2.length)) := by
              have hle := HLEN.out
              rcases cutP_err HL2.out with h | h
              · subst h
                obtain ⟨n2, h2⟩ := cutP_ok HL2.out
                exact .inr ⟨h2.pos, fun k => by rw [hle]; exact cut_mono HR.out h2 k, fun k => by rw [hle]; exact cut_mono h2 HR.out k⟩
              · left; rw [h.1]; rfl
            have HS := Go.Lib.hid hcases
            clear hcases
            obtain ⟨n3, hn3⟩ : ∃ n3, l2.length = n3 := ⟨_, rfl⟩
            rw [hn3] at HS
            have HN3 := Go.Lib.hid hn3
            clear hn3
            go_upto_region 14 with (first
              | (refine wpList_load_box rfl 25 _ rfl w.heap.size rfl (pkL p Ao co Ab cb) _ Mr.out Try.underlying25 rfl info_pk ?_)
              | (go_at_call 11; refine (kM p Ao co Ab cb more wr (oldV w) l2 err2 HL2.out (HPK.out.at xr) (by omega) (by omega)).mono ?_; rintro e5 w5 ⟨rfl, y5⟩; rw [HN3.out]; have x5 := xr.trans (y5.mono xr.size); dsimp only))
            rcases HS.out with h | ⟨h, ha, hb⟩
            · subst h
              go_wp2_with fail
              go_ret
              exact ⟨rfl, x5⟩
            · have e0 : ((n3 : Int) == 0) = false := by rw [beq_eq_false_iff_ne]; omega
              rcases Int.lt_trichotomy more mtu with hlt2 | heq | hgt
              · have j1 : (es.length : Int) ≤ (n3 : Int) := by have := hb (by omega); omega
                have j2 : ¬ mtu < more := by omega
                clear ha hb
                go_wp2_with fail
                go_ret
                exact ⟨rfl, x5⟩
              · have j1 : (es.length : Int) ≤ (n3 : Int) := by have := hb (by omega); omega
                have j2 : (n3 : Int) ≤ (es.length : Int) := by have := ha (by omega); omega
                have j3 : ¬ more < mtu := by omega
                have j4 : ¬ mtu < more := by omega
                clear ha hb heq
                go_wp2_with fail
                go_ret
                exact ⟨rfl, x5⟩
              · have j1 : (n3 : Int) ≤ (es.length : Int) := by have := ha (by omega); omega
                have j2 : ¬ more < mtu := by omega
                clear ha hb
                go_wp2_with fail
                go_ret
                exact ⟨rfl, x5⟩
      · have hne : (err != 0) = true := by simpa using h0
        have hz : l.length = 0 := by rcases cutP_err HL.out with h | h; exact absurd h h0; rw [h.1]; rfl
        have HZ := Go.Lib.hid hz
        clear hz h0
        go_wp2_with (first
          | (refine wpList_load_box rfl 25 _ rfl w.heap.size rfl (pkL p Ao co Ab cb) _ M4.out Try.underlying25 rfl info_pk ?_)
          | (go_at_call 11; refine (kM p Ao co Ab cb mtu w4 (oldV w) l err HL.out (HPK.out.at x4) (by omega) (by omega)).mono ?_; rintro e w5 ⟨rfl, y5⟩; rw [HZ.out]; have x5 := x4.trans (y5.mono x4.size); dsimp only))
        go_ret
        exact ⟨rfl, x5⟩
    · have g1 : (1000 : Int) < (p.body.length : Int) := by omega
      go_wp2_with (first
        | (refine wpList_load_box rfl 25 _ rfl w.heap.size rfl (pkL p Ao co Ab cb) _ M1.out Try.underlying25 rfl info_pk ?_)
        | (go_at_call 8; refine (rshort p Ao co Ab cb w1).mono ?_; rintro e w2 ⟨rfl, y2⟩; rw [HSB.out]; have M2 := Go.Lib.hid (M1.out.keep y2 M1.out.lt); have x2 := x1.trans (y2.mono x1.size); have d10' := M2.out.cell 10 rfl; clear y2; dsimp only))
      go_ret
      exact ⟨rfl, x2⟩
end Go.Proofs.Ytmblkgnjcmneeaa

/- Structs of one-cell fields among the arguments, opened: any number of fields; a packet. No condition. -/
namespace Go.Proofs.Ytmblkgnjcmneeaa
open Go.ChangeShapes Go.WideShapes Go.ChangeAt Go.RowKit
set_option linter.unusedVariables false

section
variable {H : Type} {enc : TypeId × Value → H} {P : Program} {w : World} {base : Nat} {spare : Nat → Bool} {held : Bool}
/-- a struct by value: its cells, each read by its field's type. -/
theorem open_struct {r : Reach} {b0 : Nat} {t : TypeId} {fs : Array Field} {v : Value} {d : DataW H} {ps : List MemPlace} (hs : P.underlying t = some (.struct fs)) (hone : Go.Deep.oneCellFields P fs = true) (hC : P.cellsOf t = fs.size)
    (hv : Value.okWide P w r b0 t v) (h : DataW.Trod enc P w base spare held t v d ps) :
    ∃ cs : List Value, v = .agg cs.toArray ∧ cs.length = fs.size ∧ ∀ (j : Nat) (f : Field) (c : Value), fs[j]? = some f → cs[j]? = some c → ∃ (y : DataW H × List MemPlace) (n : Nat), DataW.trod enc P w base spare held n f.type [c] = some y := by
  obtain ⟨cs, rfl, hsz⟩ := okWide_struct hs hv
  obtain ⟨fuel, hf⟩ := h
  obtain ⟨xs, n, _, hx, _, hlen, hg⟩ := DataW.trod_struct hs hf
  refine ⟨cs.toList, by simp, by simpa using hsz.trans hC, fun j f c hj hc => ?_⟩
  obtain ⟨ho, hk⟩ := Go.Deep.hone_of hone j f hj
  have hjl : j < fs.size := (Array.getElem?_eq_some_iff.1 hj).1
  have hjc : j < cs.size := by rw [hsz, hC]; exact hjl
  have h1 := hg j f hj
  have e : cs.toList[j]? = some cs[j] := by rw [Array.getElem?_toList, Array.getElem?_eq_getElem hjc]
  rw [ho, hk] at h1
  have hone' : ((Value.agg cs).cells.toList.drop j).take 1 = [cs[j]] := by
    show (cs.toList.drop j).take 1 = _
    rw [List.drop_eq_getElem_cons (by simpa using hjc)]
    simp
  rw [hone'] at h1
  obtain rfl := Option.some.inj (hc.symm.trans e)
  exact ⟨xs[j]'(by omega), n, by rw [h1]; exact List.getElem?_eq_getElem (by omega)⟩
/-- a field that is a slice of bytes. -/
theorem bytes_field {t e : TypeId} {n : Nat} {c : Value} {y : DataW H × List MemPlace} (ht : P.underlying t = some (.slice e)) (he : P.underlying e = some (.int .u8)) (hc : P.cellsOf e = 1) (hf : DataW.trod enc P w base spare held n t [c] = some y) :
    ∃ (A : Option Addr) (l : List UInt8) (cp : Nat), c = .slice A l.length cp ∧ l.length ≤ cp ∧ cp ≤ 9223372036854775807 ∧ (A = none → cp = 0) ∧ Bs w w.heap.size A l := by
  rcases open_ints ht he hc hf with ⟨hcs, _⟩ | ⟨a, len', cap', zs, hcs, _, hl, hm, hz, _, hcell, hwz⟩
  · simp at hcs
    subst hcs
    exact ⟨none, [], 0, rfl, by simp, by omega, fun _ => rfl, .inl rfl⟩
  · simp at hcs
    subst hcs
    have hlz : len' ≤ zs.length := by rw [hz]; split <;> omega
    have hll : ((zs.take len').map fun n => UInt8.ofNat n.toNat).length = len' := by simp; omega
    unfold maxLen at hm
    refine ⟨some a, (zs.take len').map fun n => UInt8.ofNat n.toNat, cap', by rw [hll], by omega, by omega, fun h => (by cases h), ?_⟩
    by_cases h0 : len' = 0
    · subst h0; exact .inl (by simp)
    · have hc0 := hcell 0 (by omega)
      have hlt := World.block_lt_of_cell? w _ hc0
      rw [block_add] at hlt
      refine .inr ⟨a, rfl, hlt, fun j b hj => ?_⟩
      rw [List.getElem?_map, Option.map_eq_some_iff] at hj
      obtain ⟨n, hn, rfl⟩ := hj
      rw [List.getElem?_take] at hn
      split at hn
      · rename_i hjl
        have hjz : j < zs.length := by omega
        rw [List.getElem?_eq_getElem hjz] at hn
        obtain rfl := Option.some.inj hn
        rw [hcell j hjz]
        have hw := hwz zs[j] (List.getElem_mem hjz)
        simp only [Lit.wf, Bool.and_eq_true, decide_eq_true_eq] at hw
        have hw0 : 0 ≤ zs[j] ∧ zs[j] ≤ 255 := hw
        have hg : zs.getD j 0 = zs[j] := by simp [List.getD, hjz]
        rw [hg, UInt8.toNat_ofNat_of_lt' (by show _ < 256; omega)]
        congr 2; omega
      · cases hn
theorem int_field {t : TypeId} {k : IntKind} {n : Nat} {c : Value} {y : DataW H × List MemPlace} (ht : P.underlying t = some (.int k)) (hf : DataW.trod enc P w base spare held n t [c] = some y) : ∃ x : Int, c = .int k x ∧ (Lit.int k x).wf = true := by
  obtain ⟨x, h, _, hw⟩ := DataW.trod_int ht hf
  exact ⟨x, by simpa using h, hw⟩
theorem bool_field {t : TypeId} {n : Nat} {c : Value} {y : DataW H × List MemPlace} (ht : P.underlying t = some .bool) (hf : DataW.trod enc P w base spare held n t [c] = some y) : ∃ b : Bool, c = .bool b := by
  obtain ⟨b, h, _⟩ := DataW.trod_bool ht hf
  exact ⟨b, by simpa using h⟩
end
end Go.Proofs.Ytmblkgnjcmneeaa

/- A packet among a law's arguments, opened. No condition. -/
namespace Go.Proofs.Ytmblkgnjcmneeaa
open Go.ChangeShapes Go.WideShapes Go.ChangeAt Go.RowKit
set_option linter.unusedVariables false

theorem Try.cellsU8 : Try.prog.cellsOf 5 = 1 := by kernel_rfl
theorem pk_fields : ∃ fs : Array Field, Try.prog.underlying 25 = some (.struct fs) ∧ Go.Deep.oneCellFields Try.prog fs = true ∧ Try.prog.cellsOf 25 = fs.size ∧ fs.size = 11 ∧
    (fs[0]?.map (·.type)) = some 3 ∧ (fs[1]?.map (·.type)) = some 3 ∧ (fs[2]?.map (·.type)) = some 4 ∧ (fs[3]?.map (·.type)) = some 4 ∧ (fs[4]?.map (·.type)) = some 3 ∧ (fs[5]?.map (·.type)) = some 3 ∧ (fs[6]?.map (·.type)) = some 3 ∧ (fs[7]?.map (·.type)) = some 22 ∧ (fs[8]?.map (·.type)) = some 22 ∧ (fs[9]?.map (·.type)) = some 23 ∧ (fs[10]?.map (·.type)) = some 23 :=
  ⟨_, Try.underlying25, by kernel_rfl, by kernel_rfl, rfl, rfl, rfl, rfl, rfl, rfl, rfl, rfl, rfl, rfl, rfl, rfl⟩
theorem field_of {fs : Array Field} {j : Nat} {t : TypeId} (h : (fs[j]?.map (·.type)) = some t) : ∃ f, fs[j]? = some f ∧ f.type = t := by
  rw [Option.map_eq_some_iff] at h
  exact h
set_option maxRecDepth 100000 in
/-- a packet that came in. -/
theorem open_pk {H : Type} {enc : TypeId × Value → H} {w : World} {base : Nat} {spare : Nat → Bool} {held : Bool} {r : Reach} {b0 : Nat} {v : Value} {d : DataW H} {ps : List MemPlace}
    (hv : Value.okWide Try.prog w r b0 25 v) (h : DataW.Trod enc Try.prog w base spare held 25 v d ps) :
    ∃ (p : Pk) (Ao : Option Addr) (co : Nat) (Ab : Option Addr) (cb : Nat), v = pkV p Ao co Ab cb ∧ PkIn w p Ao co Ab cb := by
  obtain ⟨fs, hs, hone, hC, h11, t0, t1, t2, t3, t4, t5, t6, t7, t8, t9, t10⟩ := pk_fields
  obtain ⟨cs, rfl, hl, hf⟩ := open_struct hs hone hC hv h
  rw [h11] at hl
  match cs, hl with
  | [c0, c1, c2, c3, c4, c5, c6, c7, c8, c9, c10], _ =>
    obtain ⟨f0, e0, y0⟩ := field_of t0
    obtain ⟨f1, e1, y1⟩ := field_of t1
    obtain ⟨f2, e2, y2⟩ := field_of t2
    obtain ⟨f3, e3, y3⟩ := field_of t3
    obtain ⟨f4, e4, y4⟩ := field_of t4
    obtain ⟨f5, e5, y5⟩ := field_of t5
    obtain ⟨f6, e6, y6⟩ := field_of t6
    obtain ⟨f7, e7, y7⟩ := field_of t7
    obtain ⟨f8, e8, y8⟩ := field_of t8
    obtain ⟨f9, e9, y9⟩ := field_of t9
    obtain ⟨f10, e10, y10⟩ := field_of t10
    obtain ⟨_, _, g0⟩ := hf 0 f0 c0 e0 rfl
    obtain ⟨_, _, g1⟩ := hf 1 f1 c1 e1 rfl
    obtain ⟨_, _, g2⟩ := hf 2 f2 c2 e2 rfl
    obtain ⟨_, _, g3⟩ := hf 3 f3 c3 e3 rfl
    obtain ⟨_, _, g4⟩ := hf 4 f4 c4 e4 rfl
    obtain ⟨_, _, g5⟩ := hf 5 f5 c5 e5 rfl
    obtain ⟨_, _, g6⟩ := hf 6 f6 c6 e6 rfl
    obtain ⟨_, _, g7⟩ := hf 7 f7 c7 e7 rfl
    obtain ⟨_, _, g8⟩ := hf 8 f8 c8 e8 rfl
    obtain ⟨_, _, g9⟩ := hf 9 f9 c9 e9 rfl
    obtain ⟨_, _, g10⟩ := hf 10 f10 c10 e10 rfl
    rw [y0] at g0
    rw [y1] at g1
    rw [y2] at g2
    rw [y3] at g3
    rw [y4] at g4
    rw [y5] at g5
    rw [y6] at g6
    rw [y7] at g7
    rw [y8] at g8
    rw [y9] at g9
    rw [y10] at g10
    obtain ⟨tos, rfl, _⟩ := int_field Try.underlying3 g0
    obtain ⟨id, rfl, _⟩ := int_field Try.underlying3 g1
    obtain ⟨df, rfl⟩ := bool_field Try.underlying4 g2
    obtain ⟨mf, rfl⟩ := bool_field Try.underlying4 g3
    obtain ⟨off, rfl, _⟩ := int_field Try.underlying3 g4
    obtain ⟨ttl, rfl, _⟩ := int_field Try.underlying3 g5
    obtain ⟨proto, rfl, _⟩ := int_field Try.underlying3 g6
    obtain ⟨src, rfl, w7⟩ := int_field Try.underlying22 g7
    obtain ⟨dst, rfl, w8⟩ := int_field Try.underlying22 g8
    obtain ⟨Ao, opts, co, rfl, o1, o2, o3, o4⟩ := bytes_field Try.underlying23 Try.underlying5 Try.cellsU8 g9
    obtain ⟨Ab, body, cb, rfl, b1, b2, b3, b4⟩ := bytes_field Try.underlying23 Try.underlying5 Try.cellsU8 g10
    exact ⟨⟨tos, id, df, mf, off, ttl, proto, src, dst, opts, body⟩, Ao, co, Ab, cb, rfl, ⟨(bounds_u32 w7).1, (bounds_u32 w7).2, (bounds_u32 w8).1, (bounds_u32 w8).2⟩, o1, o2, o3, o4, b1, b2, b3, b4⟩
end Go.Proofs.Ytmblkgnjcmneeaa
