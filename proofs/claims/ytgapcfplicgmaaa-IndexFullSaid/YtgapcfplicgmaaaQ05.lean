/- Lemmas, several texts in one. -/
import Derived.Test.YtgapcfplicgmaaaQ04
import Derived.Test.YtgapcfplicgmaaaQ01
import Derived.Carry
import Derived.ProofKit
import Derived.OpenShut
import Derived.ChangeSlices
import Derived.Deep.Fields
import Derived.Test.YtgapcfplicgmaaaRows
import Derived.Deep.Slices
import Derived.Test.YtgapcfplicgmaaaQ02
import Derived.Deep.RegionHeld3
import Derived.Deep.DeepCutAuto
import Derived.Laws.BitsAllLaws
/- Statements of layer 10, walked: any table is what the document says. -/
namespace Go.Proofs.Ytgapcfplicgmaaa
open Go.ChangeShapes Go.WideShapes Go.ChangeAt Go.RowKit
set_option linter.unusedVariables false
set_option linter.unusedSimpArgs false

theorem rget10n (l : List Cl) (A : Option Addr) (c N : Nat) (hN : l.length = N) (k : Tp) (rk : RngTp k) (w : World) (h : CsAt w l A c) (q : Int × Bool) (hq : getC l k = q) :
    Calls Try.prog 12 #[.slice A N c, tpV k] w fun e w' => e = .returned (.tuple #[.int .i64 q.1, .bool q.2]) ∧ Below w.heap.size w w' := hN ▸ rget10 l A c k rk w h q hq
theorem rlen10n (l : List Cl) (A : Option Addr) (c N : Nat) (hN : l.length = N) (w : World) (h : CsAt w l A c) (n : Nat) (hn : usedN l = n) :
    Calls Try.prog 16 #[.slice A N c] w fun e w' => e = .returned (.int .i64 n) ∧ Below w.heap.size w w' := by
  subst hN
  exact (rlen10 l A c w h n hn).mono fun e w' ⟨he, hw⟩ => ⟨he, hw ▸ Below.refl _ _⟩
theorem rnew10n (n : Int) (w : World) (q : List Cl × Int) (hq : newC n = q) : Calls Try.prog 9 #[.int .i64 n] w (TabPost w q) := rnew10 n w q hq
theorem rput10n (l : List Cl) (A : Option Addr) (c N : Nat) (hN : l.length = N) (k : Tp) (n : Int) (rk : RngTp k) (w : World) (h : CsAt w l A c) (q : List Cl × Int) (hq : putC l k n = q) :
    Calls Try.prog 18 #[.slice A N c, tpV k, .int .i64 n] w (TabPost w q) := hN ▸ rput10 l A c k n rk w h q hq
theorem rdel10n (l : List Cl) (A : Option Addr) (c N : Nat) (hN : l.length = N) (k : Tp) (rk : RngTp k) (w : World) (h : CsAt w l A c) (q : List Cl × Int) (hq : delC l k = q) :
    Calls Try.prog 20 #[.slice A N c, tpV k] w (TabPost w q) := hN ▸ rdel10 l A c k rk w h q hq
theorem put_len (l : List Cl) (k : Tp) (n : Int) : (putC l k n).1.length = l.length := by
  rcases put_cases l k n with ⟨f, p1, _⟩ | ⟨T, p1, p2⟩
  · rw [p1]
  · rw [p1]; exact p2.len
theorem del_len (l : List Cl) (k : Tp) : (delC l k).1.length = l.length := by
  rcases del_cases l k with ⟨f, p1, _⟩ | ⟨T, p1, p2⟩
  · rw [p1]
  · rw [p1]; exact p2.len
/-- a copy. -/
theorem CsAt.ofOwn {w w' : World} {l : List Cl} {A : Option Addr} {c : Nat} (h : CsAt w l A c) {base n : Nat} {e : TypeId} {A' : Option Addr} {c' : Nat} (hn : l.length = n) (ho : w'.ownsRow base e 7 (.slice A' n c') n (l.flatMap Cl.L)) : CsAt w' l A' c' := by
  have hcc := own_cap ho
  unfold maxLen at hcc
  refine ⟨by rw [hn]; exact hcc.1, hcc.2, fun e => ?_, h.rng, own_rd ho⟩
  rcases own_addr ho with ⟨_, _, hc⟩ | ⟨g, e', _⟩
  · exact hc
  · rw [e'] at e; cases e
set_option maxRecDepth 100000 in
set_option maxHeartbeats 16000000 in
theorem indexRight (kA0 : AwakeC10) (kN0 : NewC10) (kR0 : RightC10) (kL0 : LenC10) (kG0 : GetC10) (kP0 : PutC10) (kD0 : DelC10) (l : List Cl) (A : Option Addr) (c : Nat) (k : Tp) (n pl : Int) (w : World) (h : CsAt w l A c) (rk0 : RngTp k) :
    Calls Try.prog 3 #[.slice A l.length c, tpV k, .int .i64 n, .int .i64 pl] w fun e w' => e = .returned (.bool true) ∧ Below w.heap.size w w' := by
  have kA := Go.Lib.hid kA0
  have kN := Go.Lib.hid kN0
  have kR := Go.Lib.hid kR0
  have kL := Go.Lib.hid kL0
  have kG := Go.Lib.hid kG0
  have kP := Go.Lib.hid kP0
  have kD := Go.Lib.hid kD0
  have rk := Go.Lib.hid rk0
  have hlc := h.len
  have hcc := h.cap
  have hnil := h.nil
  have hfl := flat_len Cl.L 7 Cl.len l
  have hpl := put_len l k n
  have hdl := del_len l k
  obtain ⟨N, hN0⟩ : ∃ N, l.length = N := ⟨_, rfl⟩
  rw [hN0] at hlc hfl hpl hdl ⊢
  have hN := Go.Lib.hid hN0
  obtain ⟨⟨Q, f⟩, hq0⟩ : ∃ q, newC pl = q := ⟨_, rfl⟩
  obtain ⟨NQ, hQ0⟩ : ∃ m, Q.length = m := ⟨_, rfl⟩
  obtain ⟨⟨g1, g2⟩, hg0⟩ : ∃ q, getC l k = q := ⟨_, rfl⟩
  obtain ⟨r, hr0⟩ : ∃ q, rightCB l = q := ⟨_, rfl⟩
  obtain ⟨u, hu0⟩ : ∃ q, usedN l = q := ⟨_, rfl⟩
  obtain ⟨⟨P, f1⟩, hp0⟩ : ∃ q, putC l k n = q := ⟨_, rfl⟩
  obtain ⟨⟨D, f2⟩, hd0⟩ : ∃ q, delC l k = q := ⟨_, rfl⟩
  rw [hp0] at hpl
  rw [hd0] at hdl
  have hq := Go.Lib.hid hq0
  have hQ : Hid ((Q, f).1.length = NQ) := Go.Lib.hid hQ0
  have hg := Go.Lib.hid hg0
  have hr := Go.Lib.hid hr0
  have hu := Go.Lib.hid hu0
  have hp := Go.Lib.hid hp0
  have hd := Go.Lib.hid hd0
  have hP := Go.Lib.hid hpl
  have hD := Go.Lib.hid hdl
  have sl : Hid (sameTab l l = true) := Go.Lib.hid ((sameTab_iff l l).2 rfl)
  have sQ : Hid (sameTab Q Q = true) := Go.Lib.hid ((sameTab_iff Q Q).2 rfl)
  have sP : Hid (sameTab P P = true) := Go.Lib.hid ((sameTab_iff P P).2 rfl)
  have sD : Hid (sameTab D D = true) := Go.Lib.hid ((sameTab_iff D D).2 rfl)
  have x0 : Below w.heap.size w (w.alloc (oTp k)) := below_alloc (Below.refl _ _) (Nat.le_refl _) _
  have h1 := Bxo.made w 25 (tpL k)
  have h2 := h.at x0
  clear kA0 kN0 kR0 kL0 kG0 kP0 kD0 rk0 hN0 h hq0 hQ0 hg0 hr0 hu0 hp0 hd0 hpl hdl
  obtain ⟨i0, hi, hz0, hz1, hz2⟩ := info_parts info_clz
  go_enter Try.func3, Try.ntmps3
  go_upto_region 1 with fail
  generalize w.alloc (oTp k) = W at *
  have BT := Go.Lib.hid h1
  have HL := Go.Lib.hid h2
  clear h1 h2
  by_cases hb : 64 < N
  · have hb' : (64 : Int) < (N : Int) := by omega
    go_wp2_with (go_at_call 7; refine (kA.out _).mono ?_; rintro e w1 ⟨rfl, y1⟩; have BT := Go.Lib.hid (BT.out.keep y1 BT.out.lt); have HL := Go.Lib.hid (HL.out.at y1); have x1 := x0.trans (y1.mono x0.size); dsimp only)
    go_ret
    exact ⟨rfl, x1⟩
  have hb' : ¬ (64 : Int) < (N : Int) := by omega
  go_upto_region 9 with (first
    | (go_at_call 7; refine (kA.out _).mono ?_; rintro e w1 ⟨rfl, y1⟩; have BT := Go.Lib.hid (BT.out.keep y1 BT.out.lt); have HL := Go.Lib.hid (HL.out.at y1); have x1 := x0.trans (y1.mono x0.size); dsimp only)
    | (go_at_call 8; refine (kN.out pl w1 (Q, f) hq.out).mono ?_; intro e w2 hp; obtain ⟨A2, c2, rfl, hc2, y2⟩ := hp.n hQ.out; have H2 := Go.Lib.hid hc2; clear hc2 hp; have BT := Go.Lib.hid (BT.out.keep y2 BT.out.lt); have HL := Go.Lib.hid (HL.out.at y2); have x2 := x1.trans (y2.mono x1.size); dsimp only)
    | (go_at_call 9; refine (rnew10n pl w2 (Q, f) hq.out).mono ?_; intro e w3 hp; obtain ⟨A3, c3, rfl, hc3, y3⟩ := hp.n hQ.out; have H3 := Go.Lib.hid hc3; clear hc3 hp; have BT := Go.Lib.hid (BT.out.keep y3 BT.out.lt); have HL := Go.Lib.hid (HL.out.at y3); have H2 := Go.Lib.hid (H2.out.at y3); have x3 := x2.trans (y3.mono x2.size); dsimp only)
    | (go_at_call 10; refine (rsame10n Q A2 c2 Q A3 c3 w3 H2.out H3.out NQ NQ hQ.out hQ.out true sQ.out).mono ?_; rintro e w4 ⟨rfl, y4⟩; have BT := Go.Lib.hid (BT.out.keep y4 BT.out.lt); have HL := Go.Lib.hid (HL.out.at y4); have x4 := x3.trans (y4.mono x3.size); dsimp only))
  go_upto_region 14 with (first
    | (refine wpList_load_box rfl 25 _ rfl w.heap.size rfl (tpL k) _ BT.out Try.underlying25 rfl info_tp ?_)
    | (at_builtin; refine wpList_copy_rdK rfl _ _ 22 rfl 52 i0 _ 7 56 Try.underlying22 hi hz0 hz1 hz2 rfl (by omega) rfl A N c (l.flatMap Cl.L) rfl hfl (fun e => ⟨hnil e, by have := hnil e; omega⟩) HL.out.rd (cl_one l) (by unfold maxLen; omega) (by omega) ?_; intro v1 w5 ho5 y5; obtain ⟨A5, c5, rfl⟩ := own_slice ho5; have HM := Go.Lib.hid (HL.out.ofOwn hN.out ho5); clear ho5; have BT := Go.Lib.hid (BT.out.keep y5 BT.out.lt); have HL := Go.Lib.hid (HL.out.at y5); have x5 := x4.trans (y5.mono x4.size); dsimp only)
    | (go_at_call 11; refine (kG.out l A5 c5 N k w5 (g1, g2) hN.out HM.out (by omega) rk.out hg.out).mono ?_; rintro e w6 ⟨rfl, y6⟩; have BT := Go.Lib.hid (BT.out.keep y6 BT.out.lt); have HL := Go.Lib.hid (HL.out.at y6); have HM := Go.Lib.hid (HM.out.at y6); have x6 := x5.trans (y6.mono x5.size); dsimp only)
    | (go_at_call 12; refine (rget10n l A c N hN.out k rk.out w6 HL.out (g1, g2) hg.out).mono ?_; rintro e w7 ⟨rfl, y7⟩; have BT := Go.Lib.hid (BT.out.keep y7 BT.out.lt); have HL := Go.Lib.hid (HL.out.at y7); have HM := Go.Lib.hid (HM.out.at y7); have x7 := x6.trans (y7.mono x6.size); dsimp only)
    | (go_at_call 13; refine (kR.out l A5 c5 N w7 r hN.out HM.out (by omega) hr.out).mono ?_; rintro e w8 ⟨rfl, y8⟩; have BT := Go.Lib.hid (BT.out.keep y8 BT.out.lt); have HL := Go.Lib.hid (HL.out.at y8); have HM := Go.Lib.hid (HM.out.at y8); have x8 := x7.trans (y8.mono x7.size); dsimp only)
    | (go_at_call 14; refine (rright10n l A c N hN.out w8 HL.out r hr.out).mono ?_; rintro e w9 ⟨rfl, y9⟩; have BT := Go.Lib.hid (BT.out.keep y9 BT.out.lt); have HL := Go.Lib.hid (HL.out.at y9); have HM := Go.Lib.hid (HM.out.at y9); have x9 := x8.trans (y9.mono x8.size); dsimp only)
    | (go_at_call 15; refine (kL.out l A5 c5 N w9 u hN.out HM.out (by omega) hu.out).mono ?_; rintro e w10 ⟨rfl, y10⟩; have BT := Go.Lib.hid (BT.out.keep y10 BT.out.lt); have HL := Go.Lib.hid (HL.out.at y10); have HM := Go.Lib.hid (HM.out.at y10); have x10 := x9.trans (y10.mono x9.size); dsimp only)
    | (go_at_call 16; refine (rlen10n l A c N hN.out w10 HL.out u hu.out).mono ?_; rintro e w11 ⟨rfl, y11⟩; have BT := Go.Lib.hid (BT.out.keep y11 BT.out.lt); have HL := Go.Lib.hid (HL.out.at y11); have HM := Go.Lib.hid (HM.out.at y11); have x11 := x10.trans (y11.mono x10.size); dsimp only))
  go_wp2_with (first
    | (refine wpList_load_box rfl 25 _ rfl w.heap.size rfl (tpL k) _ BT.out Try.underlying25 rfl info_tp ?_)
    | (go_at_call 17; refine (kP.out l A5 c5 N k n w11 (P, f1) hN.out HM.out (by omega) rk.out hp.out).mono ?_; intro e w12 hp; obtain ⟨A12, c12, rfl, hc12, y12⟩ := hp.n hP.out; have H12 := Go.Lib.hid hc12; clear hc12 hp; have BT := Go.Lib.hid (BT.out.keep y12 BT.out.lt); have HL := Go.Lib.hid (HL.out.at y12); have HM := Go.Lib.hid (HM.out.at y12); have x12 := x11.trans (y12.mono x11.size); dsimp only)
    | (go_at_call 18; refine (rput10n l A c N hN.out k n rk.out w12 HL.out (P, f1) hp.out).mono ?_; intro e w13 hp; obtain ⟨A13, c13, rfl, hc13, y13⟩ := hp.n hP.out; have H13 := Go.Lib.hid hc13; clear hc13 hp; have BT := Go.Lib.hid (BT.out.keep y13 BT.out.lt); have HL := Go.Lib.hid (HL.out.at y13); have HM := Go.Lib.hid (HM.out.at y13); have H12 := Go.Lib.hid (H12.out.at y13); have x13 := x12.trans (y13.mono x12.size); dsimp only)
    | (go_at_call_of 10 (Value.slice A12 N c12); refine (rsame10n P A12 c12 P A13 c13 w13 H12.out H13.out N N hP.out hP.out true sP.out).mono ?_; rintro e w14 ⟨rfl, y14⟩; have BT := Go.Lib.hid (BT.out.keep y14 BT.out.lt); have HL := Go.Lib.hid (HL.out.at y14); have HM := Go.Lib.hid (HM.out.at y14); have x14 := x13.trans (y14.mono x13.size); dsimp only)
    | (go_at_call 19; refine (kD.out l A5 c5 N k w14 (D, f2) hN.out HM.out (by omega) rk.out hd.out).mono ?_; intro e w15 hp; obtain ⟨A15, c15, rfl, hc15, y15⟩ := hp.n hD.out; have H15 := Go.Lib.hid hc15; clear hc15 hp; have BT := Go.Lib.hid (BT.out.keep y15 BT.out.lt); have HL := Go.Lib.hid (HL.out.at y15); have HM := Go.Lib.hid (HM.out.at y15); have x15 := x14.trans (y15.mono x14.size); dsimp only)
    | (go_at_call 20; refine (rdel10n l A c N hN.out k rk.out w15 HL.out (D, f2) hd.out).mono ?_; intro e w16 hp; obtain ⟨A16, c16, rfl, hc16, y16⟩ := hp.n hD.out; have H16 := Go.Lib.hid hc16; clear hc16 hp; have BT := Go.Lib.hid (BT.out.keep y16 BT.out.lt); have HL := Go.Lib.hid (HL.out.at y16); have HM := Go.Lib.hid (HM.out.at y16); have H15 := Go.Lib.hid (H15.out.at y16); have x16 := x15.trans (y16.mono x15.size); dsimp only)
    | (go_at_call_of 10 (Value.slice A15 N c15); refine (rsame10n D A15 c15 D A16 c16 w16 H15.out H16.out N N hD.out hD.out true sD.out).mono ?_; rintro e w17 ⟨rfl, y17⟩; have BT := Go.Lib.hid (BT.out.keep y17 BT.out.lt); have HL := Go.Lib.hid (HL.out.at y17); have HM := Go.Lib.hid (HM.out.at y17); have x17 := x16.trans (y17.mono x16.size); dsimp only)
    | (go_at_call_of 10 (Value.slice A5 N c5); refine (rsame10n l A5 c5 l A c w17 HM.out HL.out N N hN.out hN.out true sl.out).mono ?_; rintro e w18 ⟨rfl, y18⟩; skip; have x18 := x17.trans (y18.mono x17.size); dsimp only))
  go_ret
  exact ⟨rfl, x18⟩
end Go.Proofs.Ytgapcfplicgmaaa

/- Structs of one-cell fields among the arguments, opened: any number of fields; a packet. No condition. -/
namespace Go.Proofs.Ytgapcfplicgmaaa
open Go.ChangeShapes Go.WideShapes Go.ChangeAt Go.RowKit
set_option linter.unusedVariables false

section
variable {H : Type} {enc : TypeId × Value → H} {P : Program} {w : World} {base : Nat} {spare : Nat → Bool} {held : Bool}
/-- a struct by value: its cells, each read by its field's type. -/
theorem open_struct {r : Reach} {b0 : Nat} {t : TypeId} {fs : Array Field} {v : Value} {d : DataW H} {ps : List MemPlace} (hs : P.underlying t = some (.struct fs)) (hone : Go.Deep.oneCellFields P fs = true) (hC : P.cellsOf t = fs.size)
    (hv : Value.okWide P w r b0 t v) (h : DataW.Trod enc P w base spare held t v d ps) :
    ∃ cs : List Value, v = .agg cs.toArray ∧ cs.length = fs.size ∧ ∀ (j : Nat) (f : Field) (c : Value), fs[j]? = some f → cs[j]? = some c → ∃ (y : DataW H × List MemPlace) (n : Nat), DataW.trod enc P w base spare held n f.type [c] = some y := by
  obtain ⟨cs, rfl, hsz⟩ := okWide_struct hs hv
  obtain ⟨fuel, hf⟩ := h
  obtain ⟨xs, n, _, hx, _, hlen, hg⟩ := DataW.trod_struct hs hf
  refine ⟨cs.toList, by simp, by simpa using hsz.trans hC, fun j f c hj hc => ?_⟩
  obtain ⟨ho, hk⟩ := Go.Deep.hone_of hone j f hj
  have hjl : j < fs.size := (Array.getElem?_eq_some_iff.1 hj).1
  have hjc : j < cs.size := by rw [hsz, hC]; exact hjl
  have h1 := hg j f hj
  have e : cs.toList[j]? = some cs[j] := by rw [Array.getElem?_toList, Array.getElem?_eq_getElem hjc]
  rw [ho, hk] at h1
  have hone' : ((Value.agg cs).cells.toList.drop j).take 1 = [cs[j]] := by
    show (cs.toList.drop j).take 1 = _
    rw [List.drop_eq_getElem_cons (by simpa using hjc)]
    simp
  rw [hone'] at h1
  obtain rfl := Option.some.inj (hc.symm.trans e)
  exact ⟨xs[j]'(by omega), n, by rw [h1]; exact List.getElem?_eq_getElem (by omega)⟩
/-- a field that is a slice of bytes. -/
theorem bytes_field {t e : TypeId} {n : Nat} {c : Value} {y : DataW H × List MemPlace} (ht : P.underlying t = some (.slice e)) (he : P.underlying e = some (.int .u8)) (hc : P.cellsOf e = 1) (hf : DataW.trod enc P w base spare held n t [c] = some y) :
    ∃ (A : Option Addr) (l : List UInt8) (cp : Nat), c = .slice A l.length cp ∧ l.length ≤ cp ∧ cp ≤ 9223372036854775807 ∧ (A = none → cp = 0) ∧ Bs w w.heap.size A l := by
  rcases open_ints ht he hc hf with ⟨hcs, _⟩ | ⟨a, len', cap', zs, hcs, _, hl, hm, hz, _, hcell, hwz⟩
  · simp at hcs
    subst hcs
    exact ⟨none, [], 0, rfl, by simp, by omega, fun _ => rfl, .inl rfl⟩
  · simp at hcs
    subst hcs
    have hlz : len' ≤ zs.length := by rw [hz]; split <;> omega
    have hll : ((zs.take len').map fun n => UInt8.ofNat n.toNat).length = len' := by simp; omega
    unfold maxLen at hm
    refine ⟨some a, (zs.take len').map fun n => UInt8.ofNat n.toNat, cap', by rw [hll], by omega, by omega, fun h => (by cases h), ?_⟩
    by_cases h0 : len' = 0
    · subst h0; exact .inl (by simp)
    · have hc0 := hcell 0 (by omega)
      have hlt := World.block_lt_of_cell? w _ hc0
      rw [block_add] at hlt
      refine .inr ⟨a, rfl, hlt, fun j b hj => ?_⟩
      rw [List.getElem?_map, Option.map_eq_some_iff] at hj
      obtain ⟨n, hn, rfl⟩ := hj
      rw [List.getElem?_take] at hn
      split at hn
      · rename_i hjl
        have hjz : j < zs.length := by omega
        rw [List.getElem?_eq_getElem hjz] at hn
        obtain rfl := Option.some.inj hn
        rw [hcell j hjz]
        have hw := hwz zs[j] (List.getElem_mem hjz)
        simp only [Lit.wf, Bool.and_eq_true, decide_eq_true_eq] at hw
        have hw0 : 0 ≤ zs[j] ∧ zs[j] ≤ 255 := hw
        have hg : zs.getD j 0 = zs[j] := by simp [List.getD, hjz]
        rw [hg, UInt8.toNat_ofNat_of_lt' (by show _ < 256; omega)]
        congr 2; omega
      · cases hn
theorem int_field {t : TypeId} {k : IntKind} {n : Nat} {c : Value} {y : DataW H × List MemPlace} (ht : P.underlying t = some (.int k)) (hf : DataW.trod enc P w base spare held n t [c] = some y) : ∃ x : Int, c = .int k x ∧ (Lit.int k x).wf = true := by
  obtain ⟨x, h, _, hw⟩ := DataW.trod_int ht hf
  exact ⟨x, by simpa using h, hw⟩
theorem bool_field {t : TypeId} {n : Nat} {c : Value} {y : DataW H × List MemPlace} (ht : P.underlying t = some .bool) (hf : DataW.trod enc P w base spare held n t [c] = some y) : ∃ b : Bool, c = .bool b := by
  obtain ⟨b, h, _⟩ := DataW.trod_bool ht hf
  exact ⟨b, by simpa using h⟩
end
end Go.Proofs.Ytgapcfplicgmaaa

/- A struct's fields among a law's arguments, of one cell or more. No condition. -/
namespace Go.Proofs.Ytgapcfplicgmaaa
open Go.ChangeShapes Go.WideShapes Go.ChangeAt Go.RowKit
set_option linter.unusedVariables false

section
variable {H : Type} {enc : TypeId × Value → H} {P : Program} {w : World} {base : Nat} {spare : Nat → Bool} {held : Bool}
/-- a struct's field, of any number of cells. -/
theorem some_field {t ty : TypeId} {fs : Array Field} {n : Nat} {cs : List Value} {x : DataW H × List MemPlace} (hs : P.underlying t = some (.struct fs)) (h : DataW.trod enc P w base spare held n t cs = some x) {j o : Nat}
    (hj : (fs[j]?.map fun f => (f.type, f.offset)) = some (ty, o)) : ∃ (y : DataW H × List MemPlace) (m : Nat), DataW.trod enc P w base spare held m ty ((cs.drop o).take (P.cellsOf ty)) = some y := by
  obtain ⟨xs, m, _, _, _, hlen, hg⟩ := DataW.trod_struct hs h
  rw [Option.map_eq_some_iff] at hj
  obtain ⟨f, hf, he⟩ := hj
  obtain ⟨rfl, rfl⟩ := Prod.mk.inj he
  have hjl : j < fs.size := (Array.getElem?_eq_some_iff.1 hf).1
  exact ⟨xs[j]'(by omega), m, by rw [hg j f hf]; exact List.getElem?_eq_getElem (by omega)⟩
/-- a struct's field of one cell. -/
theorem one_field {t ty : TypeId} {fs : Array Field} {n : Nat} {cs : List Value} {x : DataW H × List MemPlace} (hs : P.underlying t = some (.struct fs)) (h : DataW.trod enc P w base spare held n t cs = some x) {j o : Nat} {c : Value}
    (hj : (fs[j]?.map fun f => (f.type, f.offset)) = some (ty, o)) (hc : P.cellsOf ty = 1) (he : cs[o]? = some c) : ∃ (y : DataW H × List MemPlace) (m : Nat), DataW.trod enc P w base spare held m ty [c] = some y := by
  obtain ⟨y, m, h1⟩ := some_field hs h hj
  obtain ⟨ho, hoe⟩ := List.getElem?_eq_some_iff.1 he
  rw [hc, List.drop_eq_getElem_cons ho] at h1
  exact ⟨y, m, by rw [hoe] at h1; simpa using h1⟩
end
end Go.Proofs.Ytgapcfplicgmaaa

/- Tables of keys, steps among a law's arguments, opened. No condition. -/
namespace Go.Proofs.Ytgapcfplicgmaaa
open Go.ChangeShapes Go.WideShapes Go.ChangeAt Go.RowKit
set_option linter.unusedVariables false

theorem X.oneInt : Try.prog.cellsOf 3 = 1 := by kernel_rfl
theorem X.oneBool : Try.prog.cellsOf 4 = 1 := by kernel_rfl
theorem X.oneU32 : Try.prog.cellsOf 23 = 1 := by kernel_rfl
theorem X.cellsTp : Try.prog.cellsOf 25 = 5 := by kernel_rfl
theorem tpx_fields : ∃ fs : Array Field, Try.prog.underlying 25 = some (.struct fs) ∧ (fs[0]?.map fun f => (f.type, f.offset)) = some (3, 0) ∧ (fs[1]?.map fun f => (f.type, f.offset)) = some (23, 1) ∧ (fs[2]?.map fun f => (f.type, f.offset)) = some (3, 2) ∧ (fs[3]?.map fun f => (f.type, f.offset)) = some (23, 3) ∧ (fs[4]?.map fun f => (f.type, f.offset)) = some (3, 4) :=
  ⟨_, Try.underlying25, rfl, rfl, rfl, rfl, rfl⟩
/-- a struct of a bool, a tuple and a number. -/
def BtnB (t : TypeId) : Prop := ∃ fs : Array Field, Try.prog.underlying t = some (.struct fs) ∧ (fs[0]?.map fun f => (f.type, f.offset)) = some (4, 0) ∧ (fs[1]?.map fun f => (f.type, f.offset)) = some (25, 1) ∧ (fs[2]?.map fun f => (f.type, f.offset)) = some (3, 6)
section
variable {H : Type} {enc : TypeId × Value → H} {w : World} {base : Nat} {spare : Nat → Bool} {held : Bool}
/-- five cells that are a tuple. -/
theorem tpx_cells {n : Nat} {cs : List Value} {x : DataW H × List MemPlace} (h : DataW.trod enc Try.prog w base spare held n 25 cs = some x) (hl : cs.length = 5) : ∃ t : Tp, RngTp t ∧ cs = tpL t := by
  obtain ⟨fs, hs, t0, t1, t2, t3, t4⟩ := tpx_fields
  match cs, hl with
  | [c0, c1, c2, c3, c4], _ =>
    obtain ⟨_, _, g0⟩ := one_field (c := c0) hs h t0 X.oneInt rfl
    obtain ⟨proto, rfl, _⟩ := int_field Try.underlying3 g0
    obtain ⟨_, _, g1⟩ := one_field (c := c1) hs h t1 X.oneU32 rfl
    obtain ⟨src, rfl, w1⟩ := int_field Try.underlying23 g1
    obtain ⟨_, _, g2⟩ := one_field (c := c2) hs h t2 X.oneInt rfl
    obtain ⟨sport, rfl, _⟩ := int_field Try.underlying3 g2
    obtain ⟨_, _, g3⟩ := one_field (c := c3) hs h t3 X.oneU32 rfl
    obtain ⟨dst, rfl, w3⟩ := int_field Try.underlying23 g3
    obtain ⟨_, _, g4⟩ := one_field (c := c4) hs h t4 X.oneInt rfl
    obtain ⟨dport, rfl, _⟩ := int_field Try.underlying3 g4
    exact ⟨⟨proto, src, sport, dst, dport⟩, ⟨(bounds_u32 w1).1, (bounds_u32 w1).2, (bounds_u32 w3).1, (bounds_u32 w3).2⟩, rfl⟩
/-- seven cells that are a place, or a step. -/
theorem btn_cells {ty : TypeId} (hb : BtnB ty) {n : Nat} {cs : List Value} {x : DataW H × List MemPlace} (h : DataW.trod enc Try.prog w base spare held n ty cs = some x) (hl : cs.length = 7) : ∃ c : Cl, RngTp c.key ∧ cs = clL c := by
  obtain ⟨fs, hs, t0, t1, t2⟩ := hb
  obtain ⟨_, _, gh⟩ := some_field hs h t1
  rw [X.cellsTp] at gh
  obtain ⟨t, rt, ht⟩ := tpx_cells gh (by simp; omega)
  match cs, hl with
  | [c0, c1, c2, c3, c4, c5, c6], _ =>
    obtain ⟨_, _, g0⟩ := one_field (c := c0) hs h t0 X.oneBool rfl
    obtain ⟨used, rfl⟩ := bool_field Try.underlying4 g0
    obtain ⟨_, _, g2⟩ := one_field (c := c6) hs h t2 X.oneInt rfl
    obtain ⟨num, rfl, _⟩ := int_field Try.underlying3 g2
    have e : [c1, c2, c3, c4, c5] = tpL t := ht
    injection e with e1 e
    injection e with e2 e
    injection e with e3 e
    injection e with e4 e
    injection e with e5 e
    subst e1 e2 e3 e4 e5
    exact ⟨⟨used, t, num⟩, rt, rfl⟩
instance : Inhabited Cl := ⟨cl0⟩
theorem btns_field {st et : TypeId} (hu : Try.prog.underlying st = some (.slice et)) (hb : BtnB et) (h7 : Try.prog.cellsOf et = 7) {n : Nat} {c : Value} {y : DataW H × List MemPlace} (hf : DataW.trod enc Try.prog w base spare held n st [c] = some y) :
    ∃ (A : Option Addr) (l : List Cl) (cp : Nat), c = .slice A l.length cp ∧ CsAt w l A cp := by
  rcases Go.Deep.open_slice hu hf with ⟨hcs, _⟩ | ⟨a, len, cap, m, n', D, Pl, hcs, hb', hl, hm, hmm, hx, hi⟩
  · simp at hcs
    subst hcs
    exact ⟨none, [], 0, rfl, ⟨by simp, by omega, fun _ => rfl, fun i => rng_cl0, .inl rfl⟩⟩
  · simp at hcs
    subst hcs
    unfold maxLen at hm
    have hlm : len ≤ m := by rw [hmm]; split <;> omega
    have one : ∀ i, i < len → ∃ o : Cl, RngTp o.key ∧ ∀ j v, (clL o)[j]? = some v → w.cell? (a.add (i * 7 + j)) = some v := by
      intro i hil
      obtain ⟨cs', hc, ht'⟩ := hi i (by omega)
      rw [h7] at hc
      obtain ⟨_, hcl, hat⟩ := World.cells?_some hc
      obtain ⟨o, ro, rfl⟩ := btn_cells hb ht' hcl
      refine ⟨o, ro, fun j v hv => ?_⟩
      have hj : j < 7 := by have := (List.getElem?_eq_some_iff.1 hv).1; simpa using this
      rw [← Go.Deep.add_add, hat j hj, hv]
    obtain ⟨f, hf⟩ := Go.Deep.choose_lt one
    have hlen : ((List.range len).map f).length = len := by simp
    have hget : ∀ i, i < len → ((List.range len).map f)[i]? = some (f i) := fun i hi => by simp [hi]
    refine ⟨some a, (List.range len).map f, cap, by simp, ⟨by simpa using hl, by omega, (fun h => by cases h), fun i => ?_, ?_⟩⟩
    · unfold atC
      rw [List.getD_eq_getElem?_getD]
      by_cases hi : i < len
      · rw [hget i hi]; exact (hf i hi).1
      · rw [List.getElem?_eq_none (by rw [hlen]; omega)]; exact rng_cl0
    · refine .inr ⟨a, rfl, fun j u hj => ?_⟩
      have hjl := (List.getElem?_eq_some_iff.1 hj).1
      rw [flat_len Cl.L 7 Cl.len, hlen] at hjl
      have hq : j / 7 < len := by omega
      have hr : j % 7 < 7 := by omega
      have e : j = j / 7 * 7 + j % 7 := by omega
      rw [e, flat_get Cl.L 7 Cl.len _ _ _ (by rw [hlen]; exact hq) hr] at hj
      have hg := hget _ hq
      rw [List.getElem?_eq_getElem (by rw [hlen]; exact hq)] at hg
      injection hg with hg
      rw [hg] at hj
      rw [e]
      exact (hf _ hq).2 _ _ hj
end
theorem btn_cell : BtnB 52 := ⟨_, Try.underlying52, rfl, rfl, rfl⟩
theorem X.cellsCell : Try.prog.cellsOf 52 = 7 := by kernel_rfl
/-- a table that came in. -/
theorem open_cls {H : Type} {enc : TypeId × Value → H} {w : World} {base : Nat} {spare : Nat → Bool} {held : Bool} {r : Reach} {b0 : Nat} {v : Value} {d : DataW H} {ps : List MemPlace}
    (hv : Value.okWide Try.prog w r b0 22 v) (h : DataW.Trod enc Try.prog w base spare held 22 v d ps) :
    ∃ (A : Option Addr) (l : List Cl) (c : Nat), v = .slice A l.length c ∧ CsAt w l A c := by
  obtain ⟨a0, len, cap, rfl⟩ := okWide_slice Try.underlying22 hv
  obtain ⟨fuel, hf⟩ := h
  have hf' : DataW.trod enc Try.prog w base spare held fuel 22 [.slice a0 len cap] = some (d, ps) := by simpa [Value.cells] using hf
  exact btns_field Try.underlying22 btn_cell X.cellsCell hf'
theorem btn_step : BtnB 44 := ⟨_, Try.underlying44, rfl, rfl, rfl⟩
theorem X.cellsStep : Try.prog.cellsOf 44 = 7 := by kernel_rfl
/-- steps that came in. -/
theorem open_sts {H : Type} {enc : TypeId × Value → H} {w : World} {base : Nat} {spare : Nat → Bool} {held : Bool} {r : Reach} {b0 : Nat} {v : Value} {d : DataW H} {ps : List MemPlace}
    (hv : Value.okWide Try.prog w r b0 42 v) (h : DataW.Trod enc Try.prog w base spare held 42 v d ps) :
    ∃ (A : Option Addr) (l : List Cl) (c : Nat), v = .slice A l.length c ∧ CsAt w l A c := by
  obtain ⟨a0, len, cap, rfl⟩ := okWide_slice Try.underlying42 hv
  obtain ⟨fuel, hf⟩ := h
  have hf' : DataW.trod enc Try.prog w base spare held fuel 42 [.slice a0 len cap] = some (d, ps) := by simpa [Value.cells] using hf
  exact btns_field Try.underlying42 btn_step X.cellsStep hf'
end Go.Proofs.Ytgapcfplicgmaaa

/- A tuple among a law's arguments, opened. No condition. -/
namespace Go.Proofs.Ytgapcfplicgmaaa
open Go.ChangeShapes Go.WideShapes Go.ChangeAt Go.RowKit
set_option linter.unusedVariables false

theorem tp_fields : ∃ fs : Array Field, Try.prog.underlying 25 = some (.struct fs) ∧ Go.Deep.oneCellFields Try.prog fs = true ∧ Try.prog.cellsOf 25 = fs.size ∧ fs.size = 5 ∧
    (fs[0]?.map (·.type)) = some 3 ∧ (fs[1]?.map (·.type)) = some 23 ∧ (fs[2]?.map (·.type)) = some 3 ∧ (fs[3]?.map (·.type)) = some 23 ∧ (fs[4]?.map (·.type)) = some 3 :=
  ⟨_, Try.underlying25, by kernel_rfl, by kernel_rfl, rfl, rfl, rfl, rfl, rfl, rfl⟩
theorem tp_field_at {fs : Array Field} {j : Nat} {t : TypeId} (h : (fs[j]?.map (·.type)) = some t) : ∃ f, fs[j]? = some f ∧ f.type = t := by
  rw [Option.map_eq_some_iff] at h
  exact h
set_option maxRecDepth 100000 in
/-- a tuple that came in. -/
theorem open_tp {H : Type} {enc : TypeId × Value → H} {w : World} {base : Nat} {spare : Nat → Bool} {held : Bool} {r : Reach} {b0 : Nat} {v : Value} {d : DataW H} {ps : List MemPlace}
    (hv : Value.okWide Try.prog w r b0 25 v) (h : DataW.Trod enc Try.prog w base spare held 25 v d ps) :
    ∃ t : Tp, v = tpV t ∧ RngTp t := by
  obtain ⟨fs, hs, hone, hC, h5, t0, t1, t2, t3, t4⟩ := tp_fields
  obtain ⟨cs, rfl, hl, hf⟩ := open_struct hs hone hC hv h
  rw [h5] at hl
  match cs, hl with
  | [c0, c1, c2, c3, c4], _ =>
    obtain ⟨f0, e0, y0⟩ := tp_field_at t0
    obtain ⟨f1, e1, y1⟩ := tp_field_at t1
    obtain ⟨f2, e2, y2⟩ := tp_field_at t2
    obtain ⟨f3, e3, y3⟩ := tp_field_at t3
    obtain ⟨f4, e4, y4⟩ := tp_field_at t4
    obtain ⟨_, _, g0⟩ := hf 0 f0 c0 e0 rfl
    obtain ⟨_, _, g1⟩ := hf 1 f1 c1 e1 rfl
    obtain ⟨_, _, g2⟩ := hf 2 f2 c2 e2 rfl
    obtain ⟨_, _, g3⟩ := hf 3 f3 c3 e3 rfl
    obtain ⟨_, _, g4⟩ := hf 4 f4 c4 e4 rfl
    rw [y0] at g0
    rw [y1] at g1
    rw [y2] at g2
    rw [y3] at g3
    rw [y4] at g4
    obtain ⟨proto, rfl, _⟩ := int_field Try.underlying3 g0
    obtain ⟨src, rfl, w1⟩ := int_field Try.underlying23 g1
    obtain ⟨sport, rfl, _⟩ := int_field Try.underlying3 g2
    obtain ⟨dst, rfl, w3⟩ := int_field Try.underlying23 g3
    obtain ⟨dport, rfl, _⟩ := int_field Try.underlying3 g4
    exact ⟨⟨proto, src, sport, dst, dport⟩, rfl, (bounds_u32 w1).1, (bounds_u32 w1).2, (bounds_u32 w3).1, (bounds_u32 w3).2⟩
end Go.Proofs.Ytgapcfplicgmaaa

/- A packet's cells. -/
namespace Go.Proofs.Ytgapcfplicgmaaa
open Go.ChangeShapes Go.WideShapes Go.ChangeAt Go.RowKit
set_option linter.unusedVariables false

abbrev pkL (x : Pk) (Ao : Option Addr) (co : Nat) (Ab : Option Addr) (cb : Nat) : List Value :=
  [.int .i64 x.tos, .int .i64 x.id, .bool x.df, .bool x.mf, .int .i64 x.off, .int .i64 x.ttl, .int .i64 x.proto, .int .u32 x.src, .int .u32 x.dst, .slice Ao x.opts.length co, .slice Ab x.body.length cb]
theorem pk_one (x : Pk) (Ao : Option Addr) (co : Nat) (Ab : Option Addr) (cb : Nat) : (pkL x Ao co Ab cb).toArray.all (·.oneCell') = true := all_oneCell_toArray (by simp [Value.oneCell'])
end Go.Proofs.Ytgapcfplicgmaaa

/- A packet among a law's arguments. -/
namespace Go.Proofs.Ytgapcfplicgmaaa
open Go.ChangeShapes Go.WideShapes Go.ChangeAt Go.RowKit
set_option linter.unusedVariables false

/-- a packet that came in. -/
structure PkIn (w : World) (p : Pk) (Ao : Option Addr) (co : Nat) (Ab : Option Addr) (cb : Nat) : Prop where
  rng : Rng p
  olen : p.opts.length ≤ co
  ocap : co ≤ 9223372036854775807
  onil : Ao = none → co = 0
  obs : Bs w w.heap.size Ao p.opts
  blen : p.body.length ≤ cb
  bcap : cb ≤ 9223372036854775807
  bnil : Ab = none → cb = 0
  bbs : Bs w w.heap.size Ab p.body
end Go.Proofs.Ytgapcfplicgmaaa

/- What package tuple's functions owe, as propositions; packets whose body was put. -/
namespace Go.Proofs.Ytgapcfplicgmaaa
open Go.ChangeShapes Go.WideShapes Go.ChangeAt Go.RowKit
set_option linter.unusedVariables false
set_option linter.unusedSimpArgs false

def RightC9 : Prop := ∀ (t : Tp) (w : World) (b : Bool), rightT t = b → RngTp t → Calls Try.prog 28 #[tpV t] w fun e w' => e = .returned (.bool b) ∧ Below w.heap.size w w'
def HashC9 : Prop := ∀ (t : Tp) (seed : Int) (w : World) (q : Int), hashT t seed = q → RngTp t → 0 ≤ seed → seed ≤ 4294967295 → Calls Try.prog 32 #[tpV t, .int .u32 seed] w fun e w' => e = .returned (.int .u32 q) ∧ Below w.heap.size w w'
theorem ofP_rng (p : Pk) (h : Rng p) : RngTp (ofP p).1 := by
  have z : RngTp tp0 := ⟨by decide, by decide, by decide, by decide⟩
  unfold ofP
  repeat' split
  all_goals first | exact z | exact ⟨h.s0, h.s1, h.d0, h.d1⟩
/-- a packet without options whose body was put. -/
theorem pkIn_own {w : World} {base g n c : Nat} {L : List UInt8} (h : Own w base g n c L) (hn : n = L.length) {p : Pk} (hb : p.body = L) (ho : p.opts = []) (r : Rng p) : PkIn w p none 0 (some ⟨g, 0, none⟩) c := by
  have hc := h.cap
  unfold maxLen at hc
  refine ⟨r, by rw [ho]; exact Nat.le_refl _, by omega, fun _ => rfl, .inl ho, by rw [hb, ← hn]; exact hc.1, hc.2, (fun e => by cases e), by rw [hb]; exact h.bs⟩
end Go.Proofs.Ytgapcfplicgmaaa

/- Contracts of package tuple: words of bytes in an array; Turn, Right. -/
namespace Go.Proofs.Ytgapcfplicgmaaa
open Go.ChangeShapes Go.WideShapes Go.ChangeAt Go.RowKit
set_option linter.unusedVariables false
set_option linter.unusedSimpArgs false

abbrev u8L (l : List Int) : List Value := l.map (fun n => .int .u8 n)
theorem u8_one (l : List Int) : ∀ u ∈ u8L l, u.oneCell' = true := by
  intro u hu
  obtain ⟨n, _, rfl⟩ := List.mem_map.1 hu
  rfl
set_option maxHeartbeats 400000 in
theorem tupTo9 (n m : Int) (w : World) (b : Bool) (hb : upB n m = b) :
    Calls Try.prog 34 #[.int .i64 n, .int .i64 m] w fun e w' => e = .returned (.bool b) ∧ w = w' := by
  subst hb
  unfold upB
  by_cases h0 : 0 ≤ n
  · by_cases h1 : n ≤ m
    · go_enter Try.func34, Try.ntmps34
      go_wp2
      go_ret
      exact ⟨by simp [h0, h1], rfl⟩
    · go_enter Try.func34, Try.ntmps34
      go_wp2
      go_ret
      exact ⟨by simp [h1], rfl⟩
  · go_enter Try.func34, Try.ntmps34
    go_wp2
    go_ret
    exact ⟨by simp; omega, rfl⟩
abbrev setW (cs : List Value) (k : Nat) (x : Int) : List Value := (cs.set k (.int .u8 (x / 256))).set (k + 1) (.int .u8 (x % 256))
set_option maxHeartbeats 400000 in
theorem tputWord9 (w : World) (g : Nat) (ty : TypeId) (cs : List Value) (H : Bxo w g ty cs) (hn : cs.length = 13) (k : Nat) (ki : Int) (hki : ki = (k : Int)) (hk : k + 1 < 13) (x : Int) (x0 : 0 ≤ x) (x1 : x ≤ 65535) :
    Calls Try.prog 38 #[.slice (some ⟨g, 0, none⟩) 13 13, .int .i64 ki, .int .u16 x] w fun e w' => e = .returned (.tuple #[]) ∧ Bxo w' g ty (setW cs k x) ∧ Only g w w' := by
  subst hki
  have c0 := H.cell k (List.getElem?_eq_getElem (by omega))
  have c1 := H.cell (k + 1) (List.getElem?_eq_getElem (by omega))
  have r0 := H.frozen k
  have r1 := H.frozen (k + 1)
  have S1 := (H.set k (.int .u8 (x / 256))).set (k + 1) (.int .u8 (x % 256))
  have S2 := ((Only.refl (g := g) (w := w)).set k (.int .u8 (x / 256))).set (k + 1) (.int .u8 (x % 256))
  have S := Go.Lib.hid (And.intro S1 S2)
  clear S1 S2
  generalize cs[k] = v0 at *
  generalize cs[k + 1] = v1 at *
  have HN := Go.Lib.hid hn
  clear H hn
  have e1 := IntKind.wrap_u8 x
  have e2 := IntWalk.u8_in (x / 256) (by omega)
  have i0 : (k : Int) < 13 := by omega
  have i1 : (k : Int) + 1 < 13 := by omega
  have j0 : (0 : Int) ≤ (k : Int) := by omega
  have j1 : (0 : Int) ≤ (k : Int) + 1 := by omega
  have s1 : IntKind.i64.wrap ((k : Int) + 1) = (k : Int) + 1 := IntWalk.i64_in _ (by omega)
  have s2 : ((k : Int) + 1).toNat = k + 1 := by omega
  go_enter Try.func38, Try.ntmps38
  go_wp2
  go_end0
  exact ⟨rfl, S.out⟩
abbrev setA (cs : List Value) (k : Nat) (a : Int) : List Value := setW (setW cs k (a / 65536)) (k + 2) (a % 65536)
set_option maxHeartbeats 400000 in
theorem tputAddr9 (w : World) (g : Nat) (ty : TypeId) (cs : List Value) (H : Bxo w g ty cs) (hn : cs.length = 13) (k : Nat) (ki : Int) (hki : ki = (k : Int)) (hk : k + 3 < 13) (a : Int) (a0 : 0 ≤ a) (a1 : a ≤ 4294967295) :
    Calls Try.prog 37 #[.slice (some ⟨g, 0, none⟩) 13 13, .int .i64 ki, .int .u32 a] w fun e w' => e = .returned (.tuple #[]) ∧ Bxo w' g ty (setA cs k a) ∧ Only g w w' := by
  have HB := Go.Lib.hid H
  clear H
  subst hki
  have e1 := IntKind.wrap_u16 a
  have e2 := IntWalk.u16_in (a / 65536) (by omega)
  have s1 : IntKind.i64.wrap ((k : Int) + 2) = (k : Int) + 2 := IntWalk.i64_in _ (by omega)
  go_enter Try.func37, Try.ntmps37
  go_wp2_with fail
  refine (tputWord9 w g ty cs HB.out hn k k rfl (by omega) (a / 65536) (by omega) (by omega)).mono ?_
  rintro e w1 ⟨rfl, hb1, ho1⟩
  have HB1 := Go.Lib.hid hb1
  clear hb1 HB
  dsimp only
  go_wp2_with fail
  refine (tputWord9 w1 g ty _ HB1.out (by simp [hn]) (k + 2) ((k : Int) + 2) (by omega) (by omega) (a % 65536) (by omega) (by omega)).mono ?_
  rintro e w2 ⟨rfl, hb2, ho2⟩
  have HB2 := Go.Lib.hid hb2
  clear hb2
  dsimp only
  go_wp2
  go_end0
  exact ⟨rfl, HB2.out, ho1.trans ho2⟩
theorem rightT_up (t : Tp) : rightT t = (upB t.proto 255 && upB t.sport 65535 && upB t.dport 65535) := by
  rw [Bool.eq_iff_iff, rightT_iff]
  simp [upB]
  omega
set_option maxRecDepth 100000 in
set_option maxHeartbeats 4000000 in
theorem cright9 : RightC9 := by
  intro t w b hb _
  rw [rightT_up] at hb
  have HB := Go.Lib.hid hb
  have y0 : Below w.heap.size w (w.alloc (oTp t)) := (Below.refl _ _).alloc (Nat.le_refl _) _
  have h1 := Bxo.made w 25 (tpL t)
  clear hb
  obtain ⟨b1, e1⟩ : ∃ b1, upB t.proto 255 = b1 := ⟨_, rfl⟩
  obtain ⟨b2, e2⟩ : ∃ b2, upB t.sport 65535 = b2 := ⟨_, rfl⟩
  obtain ⟨b3, e3⟩ : ∃ b3, upB t.dport 65535 = b3 := ⟨_, rfl⟩
  rw [e1, e2, e3] at HB
  go_enter Try.func28, Try.ntmps28
  go_upto_region 1 with fail
  generalize w.alloc (oTp t) = W at *
  have c0 := h1.cell 0 rfl
  have c2 := h1.cell 2 rfl
  have c4 := h1.cell 4 rfl
  clear h1
  go_wp2_with fail
  refine (tupTo9 t.proto 255 _ b1 e1).mono ?_
  rintro e w1 ⟨rfl, rfl⟩
  dsimp only
  cases b1
  · go_wp2
    go_ret
    exact ⟨ret_bool (by have := HB.out; simpa using this), y0⟩
  go_wp2_with fail
  refine (tupTo9 t.sport 65535 _ b2 e2).mono ?_
  rintro e w1 ⟨rfl, rfl⟩
  dsimp only
  cases b2
  · go_wp2
    go_ret
    exact ⟨ret_bool (by have := HB.out; simpa using this), y0⟩
  go_wp2_with fail
  refine (tupTo9 t.dport 65535 _ b3 e3).mono ?_
  rintro e w1 ⟨rfl, rfl⟩
  dsimp only
  go_wp2
  go_ret
  exact ⟨ret_bool (by have := HB.out; simpa using this), y0⟩
end Go.Proofs.Ytgapcfplicgmaaa

/- Contracts of package tuple: told. -/
namespace Go.Proofs.Ytgapcfplicgmaaa
open Go.ChangeShapes Go.WideShapes Go.ChangeAt Go.RowKit
set_option linter.unusedVariables false
set_option linter.unusedSimpArgs false

theorem info_a13 : (Try.prog.info? 62).map (·.size) = some 13 := by kernel_rfl
theorem spl_at (vs : List Value) : ∀ (p cs : List Value), cs.length = vs.length → spl (p ++ cs) p.length vs = p ++ vs := by
  induction vs with
  | nil => intro p cs h; rw [List.length_eq_zero_iff.1 h, spl]
  | cons v r ih =>
    intro p cs h
    rcases cs with _ | ⟨c, cs⟩
    · cases h
    have := ih (p ++ [v]) cs (by simpa using h)
    rw [spl]
    have e : (p ++ c :: cs).set p.length v = (p ++ [v]) ++ cs := by simp
    rw [e]
    rw [List.length_append] at this
    rw [show p.length + 1 = p.length + [v].length from rfl, this]
    simp
theorem spl_whole13 (cs vs : List Value) (h : vs.length = 13) (h' : cs.length = 13) : spl cs 0 vs = vs := by
  have := spl_at vs [] cs (by rw [h, h'])
  simpa using this
theorem told_cells (t : Tp) (ht : RngTp t) : setW (setA (setW (setA (List.set [.int .u8 0, .int .u8 0, .int .u8 0, .int .u8 0, .int .u8 0, .int .u8 0, .int .u8 0, .int .u8 0, .int .u8 0, .int .u8 0, .int .u8 0, .int .u8 0, .int .u8 0] 0 (.int .u8 (t.proto % 256))) 1 t.src) 5 (t.sport % 65536)) 7 t.dst) 11 (t.dport % 65536) = u8L (bytesT t) := by
  have s0 := ht.s0
  have s1 := ht.s1
  have d0 := ht.d0
  have d1 := ht.d1
  simp only [setW, setA, List.set_cons_zero, List.set_cons_succ, u8L, bytesT, List.map_cons, List.map_nil]
  have q1 : t.src / 65536 / 256 = t.src / 16777216 := by omega
  have q2 : t.src % 65536 / 256 = t.src / 256 % 256 := by omega
  have q3 : t.src % 65536 % 256 = t.src % 256 := by omega
  have q4 : t.dst / 65536 / 256 = t.dst / 16777216 := by omega
  have q5 : t.dst % 65536 / 256 = t.dst / 256 % 256 := by omega
  have q6 : t.dst % 65536 % 256 = t.dst % 256 := by omega
  have q7 : t.sport % 65536 % 256 = t.sport % 256 := by omega
  have q8 : t.dport % 65536 % 256 = t.dport % 256 := by omega
  simp only [q1, q2, q3, q4, q5, q6, q7, q8]
set_option maxRecDepth 100000 in
set_option maxHeartbeats 8000000 in
theorem ctold : ∀ (t : Tp) (ht : RngTp t) (w : World), Calls Try.prog 35 #[tpV t] w fun e w' => e = .returned (.agg (u8L (bytesT t)).toArray) ∧ Below w.heap.size w w' := by
  intro t ht w
  have s0 := ht.s0
  have s1 := ht.s1
  have d0 := ht.d0
  have d1 := ht.d1
  have p0 := IntKind.wrap_u8 t.proto
  have p1 := IntKind.wrap_u16 t.sport
  have p2 := IntKind.wrap_u16 t.dport
  have y0 : Below w.heap.size w (((w.alloc (oTp t)).alloc (.cells #[.int .u8 0, .int .u8 0, .int .u8 0, .int .u8 0, .int .u8 0, .int .u8 0, .int .u8 0, .int .u8 0, .int .u8 0, .int .u8 0, .int .u8 0, .int .u8 0, .int .u8 0] 62)).alloc (.cells #[.int .u8 0, .int .u8 0, .int .u8 0, .int .u8 0, .int .u8 0, .int .u8 0, .int .u8 0, .int .u8 0, .int .u8 0, .int .u8 0, .int .u8 0, .int .u8 0, .int .u8 0] 62)) := below_alloc (below_alloc (below_alloc (Below.refl _ _) (Nat.le_refl _) _) (by simp) _) (by simp; omega) _
  have h1 := ((Bxo.made w 25 (tpL t)).alloc (.cells #[.int .u8 0, .int .u8 0, .int .u8 0, .int .u8 0, .int .u8 0, .int .u8 0, .int .u8 0, .int .u8 0, .int .u8 0, .int .u8 0, .int .u8 0, .int .u8 0, .int .u8 0] 62)).alloc (.cells #[.int .u8 0, .int .u8 0, .int .u8 0, .int .u8 0, .int .u8 0, .int .u8 0, .int .u8 0, .int .u8 0, .int .u8 0, .int .u8 0, .int .u8 0, .int .u8 0, .int .u8 0] 62)
  have h2 : Bxo (((w.alloc (oTp t)).alloc (.cells #[.int .u8 0, .int .u8 0, .int .u8 0, .int .u8 0, .int .u8 0, .int .u8 0, .int .u8 0, .int .u8 0, .int .u8 0, .int .u8 0, .int .u8 0, .int .u8 0, .int .u8 0] 62)).alloc (.cells #[.int .u8 0, .int .u8 0, .int .u8 0, .int .u8 0, .int .u8 0, .int .u8 0, .int .u8 0, .int .u8 0, .int .u8 0, .int .u8 0, .int .u8 0, .int .u8 0, .int .u8 0] 62)) (w.heap.size + 1) 62 [.int .u8 0, .int .u8 0, .int .u8 0, .int .u8 0, .int .u8 0, .int .u8 0, .int .u8 0, .int .u8 0, .int .u8 0, .int .u8 0, .int .u8 0, .int .u8 0, .int .u8 0] := by
    have := (Bxo.made (w.alloc (oTp t)) 62 [.int .u8 0, .int .u8 0, .int .u8 0, .int .u8 0, .int .u8 0, .int .u8 0, .int .u8 0, .int .u8 0, .int .u8 0, .int .u8 0, .int .u8 0, .int .u8 0, .int .u8 0]).alloc (.cells #[.int .u8 0, .int .u8 0, .int .u8 0, .int .u8 0, .int .u8 0, .int .u8 0, .int .u8 0, .int .u8 0, .int .u8 0, .int .u8 0, .int .u8 0, .int .u8 0, .int .u8 0] 62)
    simpa using this
  have h3 : Bxo (((w.alloc (oTp t)).alloc (.cells #[.int .u8 0, .int .u8 0, .int .u8 0, .int .u8 0, .int .u8 0, .int .u8 0, .int .u8 0, .int .u8 0, .int .u8 0, .int .u8 0, .int .u8 0, .int .u8 0, .int .u8 0] 62)).alloc (.cells #[.int .u8 0, .int .u8 0, .int .u8 0, .int .u8 0, .int .u8 0, .int .u8 0, .int .u8 0, .int .u8 0, .int .u8 0, .int .u8 0, .int .u8 0, .int .u8 0, .int .u8 0] 62)) (w.heap.size + 2) 62 [.int .u8 0, .int .u8 0, .int .u8 0, .int .u8 0, .int .u8 0, .int .u8 0, .int .u8 0, .int .u8 0, .int .u8 0, .int .u8 0, .int .u8 0, .int .u8 0, .int .u8 0] := by
    have := Bxo.made ((w.alloc (oTp t)).alloc (.cells #[.int .u8 0, .int .u8 0, .int .u8 0, .int .u8 0, .int .u8 0, .int .u8 0, .int .u8 0, .int .u8 0, .int .u8 0, .int .u8 0, .int .u8 0, .int .u8 0, .int .u8 0] 62)) 62 [.int .u8 0, .int .u8 0, .int .u8 0, .int .u8 0, .int .u8 0, .int .u8 0, .int .u8 0, .int .u8 0, .int .u8 0, .int .u8 0, .int .u8 0, .int .u8 0, .int .u8 0]
    simpa using this
  go_enter Try.func35, Try.ntmps35
  go_upto_region 2 with fail
  generalize (((w.alloc (oTp t)).alloc (.cells #[.int .u8 0, .int .u8 0, .int .u8 0, .int .u8 0, .int .u8 0, .int .u8 0, .int .u8 0, .int .u8 0, .int .u8 0, .int .u8 0, .int .u8 0, .int .u8 0, .int .u8 0] 62)).alloc (.cells #[.int .u8 0, .int .u8 0, .int .u8 0, .int .u8 0, .int .u8 0, .int .u8 0, .int .u8 0, .int .u8 0, .int .u8 0, .int .u8 0, .int .u8 0, .int .u8 0, .int .u8 0] 62)) = W at *
  have c0 := h1.cell 0 rfl
  have k0 := h3.cell 0 rfl
  have f0 := h3.frozen 0
  have HT := Go.Lib.hid h1
  have HR := Go.Lib.hid h2
  have HB := Go.Lib.hid h3
  clear h1 h2 h3
  go_upto_region 3 with fail
  have hb2 := HB.out.set 0 (.int .u8 (t.proto % 256))
  have ho2 : Only (w.heap.size + 2) W _ := Only.refl.set 0 (.int .u8 (t.proto % 256))
  generalize W.setCell ⟨w.heap.size + 2, 0, none⟩ (.int .u8 (t.proto % 256)) = W2 at *
  have HT2 := Go.Lib.hid (HT.out.only ho2 (by omega))
  have HR2 := Go.Lib.hid (HR.out.only ho2 (by omega))
  have HB2 := Go.Lib.hid hb2
  have y2 : Below w.heap.size w W2 := y0.trans (ho2.below (by omega))
  clear HT HR HB hb2 ho2 y0 c0 k0 f0
  try simp only [Act.put, List.setIfInBounds_toArray, List.set_cons_zero, List.set_cons_succ]
  refine wp_region_held_drew (S := fun Y => Bxo Y w.heap.size 25 (tpL t)) (by kernel_rfl) ?_ (fun hHeld => ?_)
  · exact HT2.out.drew
  refine wpAnyH_take (i := 0) (oi := ⟨some 8, _, _, _, _, _⟩) (v := ?_) rfl (by kernel_rfl) (by kernel_rfl) (by kernel_rfl) (fun _ _ _ h => h) (Or.inl ⟨by rfl, ?_⟩) (by assumption) ?_
  rotate_left
  · intro w hSw; (try dsimp only at hSw); go_simp; (try with_reducible rfl)
  try simp only [Act.put, List.setIfInBounds_toArray, List.set_cons_zero, List.set_cons_succ]
  refine wpAnyH_take (i := 1) (oi := ⟨some 9, _, _, _, _, _⟩) (v := ?_) rfl (by kernel_rfl) (by kernel_rfl) (by kernel_rfl) (fun _ _ _ h => h) (Or.inl ⟨by rfl, ?_⟩) (by assumption) ?_
  rotate_left
  · intro w hSw; (try dsimp only at hSw); go_simp; (try with_reducible rfl)
  try simp only [Act.put, List.setIfInBounds_toArray, List.set_cons_zero, List.set_cons_succ]
  refine wpAnyH_take (i := 2) (oi := ⟨some 10, _, _, _, _, _⟩) (v := ?_) rfl (by kernel_rfl) (by kernel_rfl) (by kernel_rfl) (fun _ _ _ h => h) (Or.inl ⟨by rfl, ?_⟩) (by assumption) ?_
  rotate_left
  · intro w hSw; have xc := hSw.cell 1 rfl; (try dsimp only at hSw); go_simp; (try with_reducible rfl)
  try simp only [Act.put, List.setIfInBounds_toArray, List.set_cons_zero, List.set_cons_succ]
  refine wpAnyH_ready (rs := [3]) (by kernel_rfl) (by simp) (AllReadyH.cons (o := ⟨some 11, _, _, _, _, _⟩) rfl (fun Kc hKc => ?_) AllReadyH.nil)
  go_simp
  go_at_call 37; refine (tputAddr9 _ (w.heap.size + 2) _ _ HB2.out.drew (by simp) 1 1 rfl (by omega) t.src s0 s1).mono ?_; rintro e w3 ⟨rfl, hb3, ho3⟩; have HB3 := Go.Lib.hid hb3; clear hb3; dsimp only
  refine hKc.out _ _ (hHeld.only ho3 (by omega)) (fun hHeld => ?_)
  clear hKc Kc
  try simp only [Act.put, List.setIfInBounds_toArray, List.set_cons_zero, List.set_cons_succ]
  refine wpAnyH_done (by kernel_rfl) ?_ _
  go_upto_region 4 with fail
  try simp only [Act.put, List.setIfInBounds_toArray, List.set_cons_zero, List.set_cons_succ]
  refine wp_region_held_drew (S := fun Y => Bxo Y w.heap.size 25 (tpL t)) (by kernel_rfl) ?_ (fun hHeld => ?_)
  · exact hHeld.drew
  refine wpAnyH_take (i := 0) (oi := ⟨some 12, _, _, _, _, _⟩) (v := ?_) rfl (by kernel_rfl) (by kernel_rfl) (by kernel_rfl) (fun _ _ _ h => h) (Or.inl ⟨by rfl, ?_⟩) (by assumption) ?_
  rotate_left
  · intro w hSw; (try dsimp only at hSw); go_simp; (try with_reducible rfl)
  try simp only [Act.put, List.setIfInBounds_toArray, List.set_cons_zero, List.set_cons_succ]
  refine wpAnyH_take (i := 1) (oi := ⟨some 13, _, _, _, _, _⟩) (v := ?_) rfl (by kernel_rfl) (by kernel_rfl) (by kernel_rfl) (fun _ _ _ h => h) (Or.inl ⟨by rfl, ?_⟩) (by assumption) ?_
  rotate_left
  · intro w hSw; (try dsimp only at hSw); go_simp; (try with_reducible rfl)
  try simp only [Act.put, List.setIfInBounds_toArray, List.set_cons_zero, List.set_cons_succ]
  refine wpAnyH_take (i := 2) (oi := ⟨some 14, _, _, _, _, _⟩) (v := ?_) rfl (by kernel_rfl) (by kernel_rfl) (by kernel_rfl) (fun _ _ _ h => h) (Or.inl ⟨by rfl, ?_⟩) (by assumption) ?_
  rotate_left
  · intro w hSw; have xc := hSw.cell 2 rfl; (try dsimp only at hSw); go_simp; (try with_reducible rfl)
  try simp only [Act.put, List.setIfInBounds_toArray, List.set_cons_zero, List.set_cons_succ]
  refine wpAnyH_take (i := 3) (oi := ⟨some 15, _, _, _, _, _⟩) (v := ?_) rfl (by kernel_rfl) (by kernel_rfl) (by kernel_rfl) (fun _ _ _ h => h) (Or.inl ⟨by rfl, ?_⟩) (by assumption) ?_
  rotate_left
  · intro w hSw; (try dsimp only at hSw); go_simp; (try with_reducible rfl)
  try simp only [Act.put, List.setIfInBounds_toArray, List.set_cons_zero, List.set_cons_succ]
  refine wpAnyH_ready (rs := [4]) (by kernel_rfl) (by simp) (AllReadyH.cons (o := ⟨some 16, _, _, _, _, _⟩) rfl (fun Kc hKc => ?_) AllReadyH.nil)
  go_simp
  go_at_call 38; refine (tputWord9 _ (w.heap.size + 2) _ _ HB3.out.drew (by simp) 5 5 rfl (by omega) (t.sport % 65536) (by omega) (by omega)).mono ?_; rintro e w4 ⟨rfl, hb4, ho4⟩; have HB4 := Go.Lib.hid hb4; clear hb4; dsimp only
  refine hKc.out _ _ (hHeld.only ho4 (by omega)) (fun hHeld => ?_)
  clear hKc Kc
  try simp only [Act.put, List.setIfInBounds_toArray, List.set_cons_zero, List.set_cons_succ]
  refine wpAnyH_done (by kernel_rfl) ?_ _
  go_upto_region 5 with fail
  try simp only [Act.put, List.setIfInBounds_toArray, List.set_cons_zero, List.set_cons_succ]
  refine wp_region_held_drew (S := fun Y => Bxo Y w.heap.size 25 (tpL t)) (by kernel_rfl) ?_ (fun hHeld => ?_)
  · exact hHeld.drew
  refine wpAnyH_take (i := 0) (oi := ⟨some 17, _, _, _, _, _⟩) (v := ?_) rfl (by kernel_rfl) (by kernel_rfl) (by kernel_rfl) (fun _ _ _ h => h) (Or.inl ⟨by rfl, ?_⟩) (by assumption) ?_
  rotate_left
  · intro w hSw; (try dsimp only at hSw); go_simp; (try with_reducible rfl)
  try simp only [Act.put, List.setIfInBounds_toArray, List.set_cons_zero, List.set_cons_succ]
  refine wpAnyH_take (i := 1) (oi := ⟨some 18, _, _, _, _, _⟩) (v := ?_) rfl (by kernel_rfl) (by kernel_rfl) (by kernel_rfl) (fun _ _ _ h => h) (Or.inl ⟨by rfl, ?_⟩) (by assumption) ?_
  rotate_left
  · intro w hSw; (try dsimp only at hSw); go_simp; (try with_reducible rfl)
  try simp only [Act.put, List.setIfInBounds_toArray, List.set_cons_zero, List.set_cons_succ]
  refine wpAnyH_take (i := 2) (oi := ⟨some 19, _, _, _, _, _⟩) (v := ?_) rfl (by kernel_rfl) (by kernel_rfl) (by kernel_rfl) (fun _ _ _ h => h) (Or.inl ⟨by rfl, ?_⟩) (by assumption) ?_
  rotate_left
  · intro w hSw; have xc := hSw.cell 3 rfl; (try dsimp only at hSw); go_simp; (try with_reducible rfl)
  try simp only [Act.put, List.setIfInBounds_toArray, List.set_cons_zero, List.set_cons_succ]
  refine wpAnyH_ready (rs := [3]) (by kernel_rfl) (by simp) (AllReadyH.cons (o := ⟨some 20, _, _, _, _, _⟩) rfl (fun Kc hKc => ?_) AllReadyH.nil)
  go_simp
  go_at_call 37; refine (tputAddr9 _ (w.heap.size + 2) _ _ HB4.out.drew (by simp) 7 7 rfl (by omega) t.dst d0 d1).mono ?_; rintro e w5 ⟨rfl, hb5, ho5⟩; have HB5 := Go.Lib.hid hb5; clear hb5; dsimp only
  refine hKc.out _ _ (hHeld.only ho5 (by omega)) (fun hHeld => ?_)
  clear hKc Kc
  try simp only [Act.put, List.setIfInBounds_toArray, List.set_cons_zero, List.set_cons_succ]
  refine wpAnyH_done (by kernel_rfl) ?_ _
  go_upto_region 6 with fail
  try simp only [Act.put, List.setIfInBounds_toArray, List.set_cons_zero, List.set_cons_succ]
  refine wp_region_held_drew (S := fun Y => Bxo Y w.heap.size 25 (tpL t)) (by kernel_rfl) ?_ (fun hHeld => ?_)
  · exact hHeld.drew
  refine wpAnyH_take (i := 0) (oi := ⟨some 21, _, _, _, _, _⟩) (v := ?_) rfl (by kernel_rfl) (by kernel_rfl) (by kernel_rfl) (fun _ _ _ h => h) (Or.inl ⟨by rfl, ?_⟩) (by assumption) ?_
  rotate_left
  · intro w hSw; (try dsimp only at hSw); go_simp; (try with_reducible rfl)
  try simp only [Act.put, List.setIfInBounds_toArray, List.set_cons_zero, List.set_cons_succ]
  refine wpAnyH_take (i := 1) (oi := ⟨some 22, _, _, _, _, _⟩) (v := ?_) rfl (by kernel_rfl) (by kernel_rfl) (by kernel_rfl) (fun _ _ _ h => h) (Or.inl ⟨by rfl, ?_⟩) (by assumption) ?_
  rotate_left
  · intro w hSw; (try dsimp only at hSw); go_simp; (try with_reducible rfl)
  try simp only [Act.put, List.setIfInBounds_toArray, List.set_cons_zero, List.set_cons_succ]
  refine wpAnyH_take (i := 2) (oi := ⟨some 23, _, _, _, _, _⟩) (v := ?_) rfl (by kernel_rfl) (by kernel_rfl) (by kernel_rfl) (fun _ _ _ h => h) (Or.inl ⟨by rfl, ?_⟩) (by assumption) ?_
  rotate_left
  · intro w hSw; have xc := hSw.cell 4 rfl; (try dsimp only at hSw); go_simp; (try with_reducible rfl)
  try simp only [Act.put, List.setIfInBounds_toArray, List.set_cons_zero, List.set_cons_succ]
  refine wpAnyH_take (i := 3) (oi := ⟨some 24, _, _, _, _, _⟩) (v := ?_) rfl (by kernel_rfl) (by kernel_rfl) (by kernel_rfl) (fun _ _ _ h => h) (Or.inl ⟨by rfl, ?_⟩) (by assumption) ?_
  rotate_left
  · intro w hSw; (try dsimp only at hSw); go_simp; (try with_reducible rfl)
  try simp only [Act.put, List.setIfInBounds_toArray, List.set_cons_zero, List.set_cons_succ]
  refine wpAnyH_ready (rs := [4]) (by kernel_rfl) (by simp) (AllReadyH.cons (o := ⟨some 25, _, _, _, _, _⟩) rfl (fun Kc hKc => ?_) AllReadyH.nil)
  go_simp
  go_at_call 38; refine (tputWord9 _ (w.heap.size + 2) _ _ HB5.out.drew (by simp) 11 11 rfl (by omega) (t.dport % 65536) (by omega) (by omega)).mono ?_; rintro e w6 ⟨rfl, hb6, ho6⟩; have HB6 := Go.Lib.hid hb6; clear hb6; dsimp only
  refine hKc.out _ _ (hHeld.only ho6 (by omega)) (fun hHeld => ?_)
  clear hKc Kc
  try simp only [Act.put, List.setIfInBounds_toArray, List.set_cons_zero, List.set_cons_succ]
  refine wpAnyH_done (by kernel_rfl) ?_ _
  have hb7 : Bxo w6 (w.heap.size + 2) 62 (u8L (bytesT t)) := by
    have h := HB6.out
    rwa [told_cells t ht] at h
  have HB7 := Go.Lib.hid hb7
  have hr7 : Bxo w6 (w.heap.size + 1) 62 [.int .u8 0, .int .u8 0, .int .u8 0, .int .u8 0, .int .u8 0, .int .u8 0, .int .u8 0, .int .u8 0, .int .u8 0, .int .u8 0, .int .u8 0, .int .u8 0, .int .u8 0] := ((((HR2.out.drew.only ho3 (by omega)).drew.only ho4 (by omega)).drew.only ho5 (by omega)).drew.only ho6 (by omega))
  have HR7 := Go.Lib.hid hr7
  have y6 : Below w.heap.size w w6 := (y2.trans (below_drew (Below.refl _ _))).trans ((ho3.below (by omega)).trans ((below_drew (Below.refl _ _)).trans ((ho4.below (by omega)).trans ((below_drew (Below.refl _ _)).trans ((ho5.below (by omega)).trans ((below_drew (Below.refl _ _)).trans (ho6.below (by omega))))))))
  have hl7 : (u8L (bytesT t)).length = 13 := by simp [bytesT]
  have ho7 := u8_one (bytesT t)
  obtain ⟨cs, hcs⟩ : ∃ cs, u8L (bytesT t) = cs := ⟨_, rfl⟩
  rw [hcs] at HB7 hl7 ho7
  have HCS := Go.Lib.hid hcs
  clear hcs hb7 hr7 HB6 HB5 HB4 HB3 HB2 HR2 ho3 ho4 ho5 ho6 y2 ht
  go_wp2_with (first
    | (refine wpList_load_box rfl 62 _ rfl (w.heap.size + 2) rfl cs _ HB7.out Try.underlying62 rfl (by rw [info_a13, hl7]) ?_)
    | (refine wpList_store_any rfl 62 _ _ rfl (w.heap.size + 1) 0 62 _ cs _ rfl rfl rfl HR7.out (by rw [info_a13, hl7]) (by rw [hl7]; show 0 + 13 ≤ 13; omega) ho7 ?_; intro wF hbF hoF; have HBF := Go.Lib.hid hbF; clear hbF))
  have HF : Bxo wF (w.heap.size + 1) 62 cs := by
    have h := HBF.out
    rwa [spl_whole13 _ cs hl7 rfl] at h
  exact bodyPost_ret (v := .agg cs.toArray) (results_cell_row rfl _ _ (w.heap.size + 1) 62 _ _ _ rfl HF Try.underlying62 rfl (by rw [info_a13]; simp [hl7])) rfl ⟨by rw [HCS.out], y6.trans (hoF.below (show w.heap.size ≤ w.heap.size + 1 by omega))⟩
end Go.Proofs.Ytgapcfplicgmaaa
