/- Lemmas, several texts in one. -/
import Derived.Test.YtoghcefamoefpaaGreatDoorQ02
import Derived.Test.YtoghcefamoefpaaGreatDoorQ01
import Derived.RangeFuncWrites
import Derived.RangeFuncNested
import Derived.RangeFuncBound
import Derived.RangeFuncCalls
import Derived.RangeFuncLeaves
import Derived.Shelf.Abstract
import Derived.Shelf.RegionOpen
import Derived.WalkKit
import Derived.OwnWalkIn
import Derived.TacticsInMore
import Derived.LoopNIn
import Derived.LoopIn
import Derived.Lib.ParseIntB
import Derived.Lib.Strings
/- ConfBack, from the contracts. -/
namespace Go.Proofs.YtoghcefamoefpaaGreatDoor
open Go.ChangeShapes Go.WideShapes Go.ChangeAt Go.RowKit
set_option linter.unusedVariables false
set_option linter.unusedSimpArgs false

set_option maxRecDepth 100000 in
set_option maxHeartbeats 16000000 in
theorem confBack (kA0 : AwakeC15) (kR0 : RightC15) (kS0 : ShowC15) (kP0 : ParseC15) (kM0 : SameC15) (c : Cf) (p : Cfm) (s : ByteArray) (w : World) (h : CfAt w c p) :
    Calls Tryz.prog 3 #[cfV c p, .string s] w fun e w' => e = .returned (.bool true) ∧ Below w.heap.size w w' := by
  have kA := Go.Lib.hid kA0
  have kR := Go.Lib.hid kR0
  have kS := Go.Lib.hid kS0
  have kP := Go.Lib.hid kP0
  have kM := Go.Lib.hid kM0
  have y0 : Below w.heap.size w (w.alloc (oCf c p)) := (Below.refl _ _).alloc (Nat.le_refl _) _
  have hb := Bxo.made w 27 (cfL c p)
  have HC := Go.Lib.hid h
  have tok1 : True := trivial
  have tok2 : True := trivial
  have tok3 : True := trivial
  have tok4 : True := trivial
  have tok5 : True := trivial
  have tok6 : True := trivial
  have tok7 : True := trivial
  have tok8 : True := trivial
  clear kA0 kR0 kS0 kP0 kM0 h
  go_enter Tryz.func3, Tryz.ntmps3
  go_upto_region 1 with fail
  generalize w.alloc (oCf c p) = W at *
  have HB := Go.Lib.hid (show Bxo W w.heap.size 27 (cfL c p) from hb)
  clear hb
  obtain ⟨k, hk1, hk2⟩ : ∃ k : Nat, (if (4000 : Int) < (s.size : Int) then (4000 : Int) else (s.size : Int)) = (k : Int) ∧ k ≤ 4000 ∧ k ≤ s.size := by
    split
    · exact ⟨4000, rfl, by omega, by omega⟩
    · exact ⟨s.size, rfl, by omega, by omega⟩
  have hk3 : (k : Int) ≤ (s.size : Int) := by omega
  have hk4 : min (s.size : Int) 4000 = (k : Int) := by
    rw [← hk1]
    split <;> omega
  have k0 : (0 : Int) ≤ (k : Int) := by omega
  go_upto_region 4 with (go_at_call 5; refine (kA.out _ (HC.out.at y0).tb).mono ?_; rintro e w1 ⟨rfl, y1⟩; dsimp only)
  have x1 := y0.trans (y1.mono y0.size)
  have HB1 := Go.Lib.hid (HB.out.keep y1 HB.out.lt)
  have HC1 := Go.Lib.hid (HC.out.at x1)
  have HTS : Hid ((s.extract 0 k).size ≤ 100000) := Go.Lib.hid (by rw [ByteArray.size_extract]; omega)
  generalize s.extract 0 k = t at *
  obtain ⟨sh, hsh⟩ : ∃ q, shortC c = q := ⟨_, rfl⟩
  have HSH := Go.Lib.hid hsh
  clear hk1 hk2 hk3 hk4 y1 hsh
  cases sh
  · go_wp2_with (first
      | (clear tok1; refine wpList_load_box rfl 27 _ rfl w.heap.size rfl (cfL c p) _ HB1.out Tryz.underlying27 rfl info_cf ?_)
      | (go_at_call 6; refine (rshort15 c p w1 _ HSH.out).mono ?_; rintro e w2 ⟨rfl, y2⟩; dsimp only))
    go_ret
    exact ⟨rfl, x1.trans (y2.mono x1.size)⟩
  go_upto_region 7 with (first
    | (clear tok1; refine wpList_load_box rfl 27 _ rfl w.heap.size rfl (cfL c p) _ HB1.out Tryz.underlying27 rfl info_cf ?_)
    | (go_at_call 6; refine (rshort15 c p w1 _ HSH.out).mono ?_; rintro e w2 ⟨rfl, y2⟩; have x2 := x1.trans (y2.mono x1.size); have HB2 := Go.Lib.hid (HB1.out.keep y2 HB1.out.lt); have HC2 := Go.Lib.hid (HC1.out.at y2); dsimp only)
    | (clear tok2; refine wpList_load_box rfl 27 _ rfl w.heap.size rfl (cfL c p) _ HB2.out Tryz.underlying27 rfl info_cf ?_)
    | (go_at_call 7; refine (kS.out c p HSH.out w2 HC2.out).mono ?_; rintro e w3 hso; obtain ⟨⟨u1, n1, rfl, hs1, hs2⟩, y3⟩ := hso; dsimp only))
  have x3 := x2.trans (y3.mono x2.size)
  have HB3 := Go.Lib.hid (HB2.out.keep y3 HB2.out.lt)
  have HC3 := Go.Lib.hid (HC2.out.at y3)
  obtain ⟨b, hb⟩ : ∃ q, rightCf c = q := ⟨_, rfl⟩
  clear x1 x2 y2 y3 HB1 HB2 HC1 HC2
  cases b
  · obtain rfl := hs2 hb
    clear hs1 hs2 hb
    go_upto_region 11 with fail
    obtain ⟨wr, hwr⟩ : ∃ wr, w3 = wr := ⟨_, rfl⟩
    have xr := x3
    have HTB := Go.Lib.hid HC3.out.tb
    rw [hwr] at xr HTB ⊢
    clear x3 hwr HB3 HC3
    obtain ⟨⟨d, e2, at2⟩, hq⟩ : ∃ q, parseP (txB t) = q := ⟨_, rfl⟩
    have HQ := Go.Lib.hid hq
    have hrd := (parse_read (txB t)).is
    rw [hq] at hrd
    dsimp only at hrd
    clear hq
    go_upto_region 12 with (go_at_call 8; refine (kP.out t HTS.out _ HQ.out wr HTB.out).mono ?_; rintro e wa hpo; obtain ⟨⟨pa, rfl, hca, hfrpa⟩, ya⟩ := hpo; dsimp only)
    have xa := xr.trans (ya.mono xr.size)
    have xb := below_alloc xa xa.size (oCf d pa)
    have hba := Bxo.made wa 27 (cfL d pa)
    have HCB : Hid (CfAt (wa.alloc (oCf d pa)) d pa) := Go.Lib.hid (hca.at ((Below.refl _ _).alloc (Nat.le_refl _) (oCf d pa)))
    clear hca xa ya
    generalize wa.alloc (oCf d pa) = wb at *
    generalize wa.heap.size = g3 at *
    have HBA := Go.Lib.hid (show Bxo wb g3 27 (cfL d pa) from hba)
    clear hba
    rcases hrd with ⟨hr, hrg, he, ha⟩ | ⟨hc, he, ha⟩
    · subst he ha
      have HRT := Go.Lib.hid ((rightCf_iff d).2 hr)
      have HSH := Go.Lib.hid hr.short
      have HPS := Go.Lib.hid (parse_show hr hrg)
      have HLN := Go.Lib.hid (show_len hr hrg)
      clear hr hrg
      go_upto_region 15 with (first
        | (clear tok3; refine wpList_load_box rfl 27 _ rfl g3 rfl (cfL d pa) _ HBA.out Tryz.underlying27 rfl info_cf ?_)
        | (go_at_call 7; refine (kS.out d pa HSH.out wb HCB.out).mono ?_; rintro e wd hso; obtain ⟨⟨u, n, rfl, hs, _⟩, yd⟩ := hso; obtain ⟨hs1, rfl⟩ := hs HRT.out; dsimp only))
      have xd := xb.trans (yd.mono xb.size)
      have HBD := Go.Lib.hid (HBA.out.keep yd HBA.out.lt)
      have HCD := Go.Lib.hid (HCB.out.at yd)
      have HUS : Hid (u.size ≤ 100000) := Go.Lib.hid (by rw [← txB_len, hs1]; have := HLN.out; omega)
      have HUP : Hid (parseP (txB u) = (d, 0, 0)) := Go.Lib.hid (by rw [hs1]; exact HPS.out)
      clear hs hs1 yd HBA HCB xb
      go_upto_region 16 with (go_at_call 8; refine (kP.out u HUS.out _ HUP.out wd HCD.out.tb).mono ?_; rintro e we hpo; obtain ⟨⟨pe, rfl, hce, hfrpe⟩, ye⟩ := hpo; dsimp only)
      have xe := xd.trans (ye.mono xd.size)
      have xf := below_alloc xe xe.size (oCf d pe)
      have yf := below_alloc ye ye.size (oCf d pe)
      have hbe := Bxo.made we 27 (cfL d pe)
      have HCE : Hid (CfAt (we.alloc (oCf d pe)) d pe) := Go.Lib.hid (hce.at ((Below.refl _ _).alloc (Nat.le_refl _) (oCf d pe)))
      have HCF := Go.Lib.hid (HCD.out.at yf)
      have HBF := Go.Lib.hid (HBD.out.keep yf HBD.out.lt)
      clear hce xe ye yf
      generalize we.alloc (oCf d pe) = wf at *
      generalize we.heap.size = g4 at *
      have HBE := Go.Lib.hid (show Bxo wf g4 27 (cfL d pe) from hbe)
      clear hbe
      go_wp2_with (first
        | (clear tok4; refine wpList_load_box rfl 27 _ rfl g3 rfl (cfL d pa) _ HBF.out Tryz.underlying27 rfl info_cf ?_)
        | (go_at_call 10; refine (kR.out d pa HSH.out wf HCF.out _ HRT.out).mono ?_; rintro e wg ⟨rfl, yg⟩; have xg := xf.trans (yg.mono xf.size); have HBG := Go.Lib.hid (HBF.out.keep yg HBF.out.lt); have HBH := Go.Lib.hid (HBE.out.keep yg HBE.out.lt); have HCG := Go.Lib.hid (HCF.out.at yg); have HCH := Go.Lib.hid (HCE.out.at yg); dsimp only)
        | (clear tok5; refine wpList_load_box rfl 27 _ rfl g3 rfl (cfL d pa) _ HBG.out Tryz.underlying27 rfl info_cf ?_)
        | (clear tok6; refine wpList_load_box rfl 27 _ rfl g4 rfl (cfL d pe) _ HBH.out Tryz.underlying27 rfl info_cf ?_)
        | (go_at_call 9; refine (kM.out d pa pe HSH.out wg HCG.out HCH.out).mono ?_; rintro e wh ⟨rfl, yh⟩; have xh := xg.trans (yh.mono xg.size); dsimp only))
      go_ret
      exact ⟨rfl, xh⟩
    · subst hc
      have hne : (e2 != 0) = true := by rcases he with rfl | rfl | rfl | rfl <;> rfl
      have c0 : wb.cell? ⟨g3, 0, none⟩ = some (.slice pa.A1 0 pa.c1) := HBA.out.cell 0 rfl
      have c1 : wb.cell? ⟨g3, 1, none⟩ = some (.slice pa.A2 0 pa.c2) := HBA.out.cell 1 rfl
      have c5 : wb.cell? ⟨g3, 5, none⟩ = some (.int .i64 0) := HBA.out.cell 5 rfl
      have c6 : wb.cell? ⟨g3, 6, none⟩ = some (.slice pa.A3 0 pa.c3) := HBA.out.cell 6 rfl
      clear he ha
      go_wp2_with fail
      go_ret
      exact ⟨rfl, xb⟩
  · obtain ⟨hs3, rfl⟩ := hs1 hb
    have hr := (rightCf_iff c).1 hb
    have hrg := HC3.out.rng
    have HUS : Hid (u1.size ≤ 100000) := Go.Lib.hid (by rw [← txB_len, hs3]; have := show_len hr hrg; omega)
    have HUP : Hid (parseP (txB u1) = (c, 0, 0)) := Go.Lib.hid (by rw [hs3]; exact parse_show hr hrg)
    clear hs1 hs2 hs3 hb hr hrg
    go_upto_region 9 with (go_at_call 8; refine (kP.out u1 HUS.out _ HUP.out w3 HC3.out.tb).mono ?_; rintro e w4 hpo; obtain ⟨⟨p4, rfl, hc4, hfrp4⟩, y4⟩ := hpo; dsimp only)
    have x4 := x3.trans (y4.mono x3.size)
    have x5 := below_alloc x4 x4.size (oCf c p4)
    have y5 := below_alloc y4 y4.size (oCf c p4)
    have hb5 := Bxo.made w4 27 (cfL c p4)
    have HD5 : Hid (CfAt (w4.alloc (oCf c p4)) c p4) := Go.Lib.hid (hc4.at ((Below.refl _ _).alloc (Nat.le_refl _) (oCf c p4)))
    have HC5 := Go.Lib.hid (HC3.out.at y5)
    have HB5 := Go.Lib.hid (HB3.out.keep y5 HB3.out.lt)
    clear hc4 x3 x4 y4 y5 HB3 HC3
    generalize w4.alloc (oCf c p4) = w5 at *
    generalize w4.heap.size = g5 at *
    have HE5 := Go.Lib.hid (show Bxo w5 g5 27 (cfL c p4) from hb5)
    clear hb5
    go_upto_region 11 with (first
      | (clear tok7; refine wpList_load_box rfl 27 _ rfl w.heap.size rfl (cfL c p) _ HB5.out Tryz.underlying27 rfl info_cf ?_)
      | (clear tok8; refine wpList_load_box rfl 27 _ rfl g5 rfl (cfL c p4) _ HE5.out Tryz.underlying27 rfl info_cf ?_)
      | (go_at_call 9; refine (kM.out c p p4 HSH.out w5 HC5.out HD5.out).mono ?_; rintro e wr ⟨rfl, yr⟩; dsimp only))
    have xr := x5.trans (yr.mono x5.size)
    have HTB := Go.Lib.hid (HC5.out.at yr).tb
    clear x5 yr HB5 HC5 HD5 HE5
    obtain ⟨⟨d, e2, at2⟩, hq⟩ : ∃ q, parseP (txB t) = q := ⟨_, rfl⟩
    have HQ := Go.Lib.hid hq
    have hrd := (parse_read (txB t)).is
    rw [hq] at hrd
    dsimp only at hrd
    clear hq
    go_upto_region 12 with (go_at_call 8; refine (kP.out t HTS.out _ HQ.out wr HTB.out).mono ?_; rintro e wa hpo; obtain ⟨⟨pa, rfl, hca, hfrpa⟩, ya⟩ := hpo; dsimp only)
    have xa := xr.trans (ya.mono xr.size)
    have xb := below_alloc xa xa.size (oCf d pa)
    have hba := Bxo.made wa 27 (cfL d pa)
    have HCB : Hid (CfAt (wa.alloc (oCf d pa)) d pa) := Go.Lib.hid (hca.at ((Below.refl _ _).alloc (Nat.le_refl _) (oCf d pa)))
    clear hca xa ya
    generalize wa.alloc (oCf d pa) = wb at *
    generalize wa.heap.size = g3 at *
    have HBA := Go.Lib.hid (show Bxo wb g3 27 (cfL d pa) from hba)
    clear hba
    rcases hrd with ⟨hr, hrg, he, ha⟩ | ⟨hc, he, ha⟩
    · subst he ha
      have HRT := Go.Lib.hid ((rightCf_iff d).2 hr)
      have HSH := Go.Lib.hid hr.short
      have HPS := Go.Lib.hid (parse_show hr hrg)
      have HLN := Go.Lib.hid (show_len hr hrg)
      clear hr hrg
      go_upto_region 15 with (first
        | (clear tok3; refine wpList_load_box rfl 27 _ rfl g3 rfl (cfL d pa) _ HBA.out Tryz.underlying27 rfl info_cf ?_)
        | (go_at_call 7; refine (kS.out d pa HSH.out wb HCB.out).mono ?_; rintro e wd hso; obtain ⟨⟨u, n, rfl, hs, _⟩, yd⟩ := hso; obtain ⟨hs1, rfl⟩ := hs HRT.out; dsimp only))
      have xd := xb.trans (yd.mono xb.size)
      have HBD := Go.Lib.hid (HBA.out.keep yd HBA.out.lt)
      have HCD := Go.Lib.hid (HCB.out.at yd)
      have HUS : Hid (u.size ≤ 100000) := Go.Lib.hid (by rw [← txB_len, hs1]; have := HLN.out; omega)
      have HUP : Hid (parseP (txB u) = (d, 0, 0)) := Go.Lib.hid (by rw [hs1]; exact HPS.out)
      clear hs hs1 yd HBA HCB xb
      go_upto_region 16 with (go_at_call 8; refine (kP.out u HUS.out _ HUP.out wd HCD.out.tb).mono ?_; rintro e we hpo; obtain ⟨⟨pe, rfl, hce, hfrpe⟩, ye⟩ := hpo; dsimp only)
      have xe := xd.trans (ye.mono xd.size)
      have xf := below_alloc xe xe.size (oCf d pe)
      have yf := below_alloc ye ye.size (oCf d pe)
      have hbe := Bxo.made we 27 (cfL d pe)
      have HCE : Hid (CfAt (we.alloc (oCf d pe)) d pe) := Go.Lib.hid (hce.at ((Below.refl _ _).alloc (Nat.le_refl _) (oCf d pe)))
      have HCF := Go.Lib.hid (HCD.out.at yf)
      have HBF := Go.Lib.hid (HBD.out.keep yf HBD.out.lt)
      clear hce xe ye yf
      generalize we.alloc (oCf d pe) = wf at *
      generalize we.heap.size = g4 at *
      have HBE := Go.Lib.hid (show Bxo wf g4 27 (cfL d pe) from hbe)
      clear hbe
      go_wp2_with (first
        | (clear tok4; refine wpList_load_box rfl 27 _ rfl g3 rfl (cfL d pa) _ HBF.out Tryz.underlying27 rfl info_cf ?_)
        | (go_at_call 10; refine (kR.out d pa HSH.out wf HCF.out _ HRT.out).mono ?_; rintro e wg ⟨rfl, yg⟩; have xg := xf.trans (yg.mono xf.size); have HBG := Go.Lib.hid (HBF.out.keep yg HBF.out.lt); have HBH := Go.Lib.hid (HBE.out.keep yg HBE.out.lt); have HCG := Go.Lib.hid (HCF.out.at yg); have HCH := Go.Lib.hid (HCE.out.at yg); dsimp only)
        | (clear tok5; refine wpList_load_box rfl 27 _ rfl g3 rfl (cfL d pa) _ HBG.out Tryz.underlying27 rfl info_cf ?_)
        | (clear tok6; refine wpList_load_box rfl 27 _ rfl g4 rfl (cfL d pe) _ HBH.out Tryz.underlying27 rfl info_cf ?_)
        | (go_at_call 9; refine (kM.out d pa pe HSH.out wg HCG.out HCH.out).mono ?_; rintro e wh ⟨rfl, yh⟩; have xh := xg.trans (yh.mono xg.size); dsimp only))
      go_ret
      exact ⟨rfl, xh⟩
    · subst hc
      have hne : (e2 != 0) = true := by rcases he with rfl | rfl | rfl | rfl <;> rfl
      have c0 : wb.cell? ⟨g3, 0, none⟩ = some (.slice pa.A1 0 pa.c1) := HBA.out.cell 0 rfl
      have c1 : wb.cell? ⟨g3, 1, none⟩ = some (.slice pa.A2 0 pa.c2) := HBA.out.cell 1 rfl
      have c5 : wb.cell? ⟨g3, 5, none⟩ = some (.int .i64 0) := HBA.out.cell 5 rfl
      have c6 : wb.cell? ⟨g3, 6, none⟩ = some (.slice pa.A3 0 pa.c3) := HBA.out.cell 6 rfl
      clear he ha
      go_wp2_with fail
      go_ret
      exact ⟨rfl, xb⟩
end Go.Proofs.YtoghcefamoefpaaGreatDoor

/- A range over a function that keeps a state of its own in one cell: the caller's law. -/
namespace Go.Proofs.YtoghcefamoefpaaGreatDoor
open Go.ChangeShapes Go.WideShapes Go.ChangeAt Go.RowKit
set_option linter.unusedVariables false
set_option linter.unusedSimpArgs false

variable {F : Fence} {n : Nat} {P : Program}
/-- what such an iterator owes: it stores into the cell bs only, besides what the rounds do. -/
def SeqCell {α : Type} (F : Fence) (n : Nat) (P : Program) (g : Nat) (lb : Array Value) (encs : α → Array Value) (Kp : World → World → Prop) (S Sp : List α → Prop) (N bs : Nat) (w0 : World) : Prop :=
  ∀ (l : Nat) (J Jx : List α → World → Prop) (W : World), Below w0.heap.size w0 W → (∀ pre X v, J pre X → J pre (X.setCell ⟨bs, 0, none⟩ v)) → (∀ pre X, J pre X → J pre X.drew) →
    (∀ pre x X, J pre X → pre.length < N → YieldAt F (n - 1) P l (encs x) X fun e X' => (e = .returned (.bool true) ∧ J (pre ++ [x]) X' ∧ Kp X X') ∨ (e = .returned (.bool false) ∧ Jx (pre ++ [x]) X')) →
    J [] W → CallsIn F n P g (#[.func (.yield l) #[] #[]] ++ lb) W fun e X => (∃ v, e = .returned v) ∧ ((∃ xs, S xs ∧ J xs X) ∨ ∃ pre, Sp pre ∧ Jx pre X)
/-- the loop's record while it waits, runs, is over. -/
abbrev lpR (fn : FuncId) (a : Act) (ps : Array Tmp) (assign body : Code) (D : Nat) (st : LoopState) (pe : Option Code) : Obj := .loop { state := st, pending := pe, fn, tmps := a.tmps, params := ps, assign, body, defers := D }
theorem wp_rangeC {α : Type} {g : Operand} {ps : Array Tmp} {assign body : Code} {Q : Exit → Act → World → Prop} {a : Act} {w : World} (hro : F.round = none) (h1 : 1 ≤ n) {gf : Nat} {lb : Array Value}
    (hg : a.eval g = .func (.func gf) #[] lb) (hFg : F.fn gf) (eg : ∀ args w, (callFunc gf args).run P w = .ok (.enter gf args) w) {encs : α → Array Value} {Kp : World → World → Prop} {S Sp : List α → Prop} {N bs : Nat} (hbs : bs < w.heap.size)
    (hseq : SeqCell F (n - 1) P gf lb encs Kp S Sp N bs w) (hKt : ∀ {A B C : World}, Kp A B → Kp B C → Kp A C) (hKb : ∀ (W : World) (l : Nat) (o' : Obj), w.heap.size ≤ l → Kp W (W.putObj l o')) (hps : ∀ x, (encs x).size = ps.size)
    (I : List α → World → Prop) (Ix : Code → List α → World → Prop) (hI : OwnFrom w.heap.size I) (hIx : ∀ c, OwnFrom w.heap.size (Ix c)) (hst : ∀ pre X v, I pre X → I pre (X.setCell ⟨bs, 0, none⟩ v)) (hdr : ∀ pre X, I pre X → I pre X.drew) (h0 : I [] w) (a₁ : α → Act)
    (hassign : ∀ (l : Nat) (x : α) (W : World) (K : Act → World → Prop), K (a₁ x) W → assign.wpIn (F.inRound l) (n - 1 - 1) P (Exit.then K (fun _ _ _ => False)) { tmps := (ps.zip (encs x)).foldl (fun t (p, v) => t.setIfInBounds p v) a.tmps, defers := [] } W)
    (hbody : ∀ (l : Nat) (pre : List α) (x : α) (W : World), I pre W → pre.length < N → body.wpIn (F.inRound l) (n - 1 - 1) P (ownPostG w.heap.size Kp I Ix (pre ++ [x]) W) (a₁ x) W)
    (hdone : ∀ (xs : List α) (W : World), S xs → I xs W → W.heap[w.heap.size]? = some (.deferred (some [])) → Q .normal { a with defers := { target := .collected w.heap.size, args := #[] } :: a.defers } W)
    (hstop : ∀ (c : Code) (pre : List α) (W : World), Sp pre → Ix c pre W → W.heap[w.heap.size]? = some (.deferred (some [])) → c.wpIn F n P Q { a with defers := { target := .collected w.heap.size, args := #[] } :: a.defers } W) :
    (Code.rangeFunc g ps assign body).wpIn F n P Q a w := by
  refine wpIn_rangeFunc fun fn hfn => ?_
  rw [hro]
  generalize hD : w.heap.size = D at *
  have step : ∃ W1, (w.alloc (.deferred (some []))).alloc (lpR fn a ps assign body D .ready none) = W1 ∧ W1.heap[D + 1]? = some (lpR fn a ps assign body D .ready none) ∧ W1.heap[D]? = some (.deferred (some [])) ∧ I [] W1 ∧ Below D w W1 := by
    refine ⟨_, rfl, ?_, ?_, hI.alloc _ (hI.alloc _ h0), ((Below.refl _ w).alloc (Nat.le_of_eq hD.symm) _).alloc (by simp; omega) _⟩
    · have := World.alloc_heap_new (w.alloc (.deferred (some []))) (lpR fn a ps assign body D .ready none)
      rwa [World.size_alloc, hD] at this
    · have h := World.alloc_heap_new w (.deferred (some []))
      rw [hD] at h
      exact (Below.heap_alloc _ _ _ (by simp; omega)).trans h
  obtain ⟨W1, e1, hL, hK, hI1, hb1⟩ := step
  refine ⟨D + 1, [{ target := .collected D, args := #[] }], W1, { target := .fn (.func gf) lb, args := #[.func (.yield (D + 1)) #[] #[]] }, W1, gf, #[.func (.yield (D + 1)) #[] #[]] ++ lb, W1, ?_, ?_, ?_, ?_, fun _ => h1, ?_⟩
  · rw [← e1]
    subst hD
    exact run_enterLoop_outer _ _ _ _ _
  · simp only [resolve, hg]
    simp [go_sem]
  · intro f' hf'
    simp [Target.leads] at hf'
    subst hf'
    exact hFg
  · simp [invoke, go_sem, eg]
  have other : ∀ (X : World) (k : Nat) (v : Value), D ≤ k → (X.setCell ⟨bs, 0, none⟩ v).heap[k]? = X.heap[k]? := fun X k v hk => heap_setCell_other X ⟨bs, 0, none⟩ k v (by show k ≠ bs; omega)
  refine (hseq (D + 1) (fun pre X => I pre X ∧ X.heap[D + 1]? = some (lpR fn a ps assign body D .ready none) ∧ X.heap[D]? = some (.deferred (some [])))
    (fun pre X => ∃ c, Ix c pre X ∧ X.heap[D + 1]? = some (lpR fn a ps assign body D .done (some c)) ∧ X.heap[D]? = some (.deferred (some []))) W1 (by rw [hD]; exact hb1)
    (fun pre X v h => ⟨hst _ _ _ h.1, (other X _ v (by omega)).trans h.2.1, (other X _ v (by omega)).trans h.2.2⟩) (fun pre X h => ⟨hdr _ _ h.1, h.2⟩) (fun pre x X hJ hlen => ?_) ⟨hI1, hL, hK⟩).mono ?_
  · obtain ⟨hi, hl, hk⟩ := hJ
    have hlt := (Array.getElem?_eq_some_iff.1 hl).1
    refine ⟨fn, _, assign, body, run_yield (P := P) (args := encs x) hl (hps x), roundIn_of_wpIn hfn (hassign _ x X _ ⟨_, run_beginRound hl rfl, ?_⟩)⟩
    generalize hX2 : X.putObj (D + 1) (lpR fn a ps assign body D .busy none) = X2
    have l2 : X2.heap[D + 1]? = some (lpR fn a ps assign body D .busy none) := by rw [← hX2]; exact World.putObj_heap_same hlt
    have k2 : X2.heap[D]? = some (.deferred (some [])) := by rw [← hX2]; exact (World.putObj_heap_other (by omega)).trans hk
    have kp2 : Kp X X2 := by rw [← hX2]; exact hKb _ _ _ (by omega)
    have i2 : I pre X2 := by rw [← hX2]; exact hI.putObj _ hi (by omega) hl rfl
    have close : ∀ (jump : Option Code) (X3 : World), KeepsFrom D X2 X3 → X3.heap[D + 1]? = some (lpR fn a ps assign body D .busy none) ∧ (Instr.endRound (D + 1) jump).run P X3 = .ok (.bool jump.isNone) (X3.putObj (D + 1) (lpR fn a ps assign body D (if jump.isNone then .ready else .done) jump)) ∧
        (X3.putObj (D + 1) (lpR fn a ps assign body D (if jump.isNone then .ready else .done) jump)).heap[D + 1]? = some (lpR fn a ps assign body D (if jump.isNone then .ready else .done) jump) ∧ (X3.putObj (D + 1) (lpR fn a ps assign body D (if jump.isNone then .ready else .done) jump)).heap[D]? = some (.deferred (some [])) := fun jump X3 h3 => by
      have l3 := h3.same _ _ (by omega) l2 rfl
      exact ⟨l3, run_endRound (P := P) jump l3, World.putObj_heap_same (Array.getElem?_eq_some_iff.1 l3).1, (World.putObj_heap_other (by omega)).trans (h3.same _ _ (Nat.le_refl _) k2 rfl)⟩
    refine wpIn_mono (hbody _ pre x X2 i2 hlen) fun e a3 X3 hp => ?_
    cases e with
    | normal =>
      obtain ⟨k3, q3, i3⟩ := hp
      obtain ⟨l3, r3, l4, k4⟩ := close none X3 k3
      exact ⟨_, _, r3, .inl ⟨rfl, ⟨hI.putObj _ i3 (by omega) l3 rfl, l4, k4⟩, hKt (hKt kp2 q3) (hKb _ _ _ (by omega))⟩⟩
    | ret =>
      obtain ⟨k3, i3⟩ := hp
      obtain ⟨l3, r3, l4, k4⟩ := close (some .ret) X3 k3
      exact ⟨_, _, r3, .inr ⟨rfl, .ret, (hIx _).putObj _ i3 (by omega) l3 rfl, l4, k4⟩⟩
    | exit id =>
      obtain ⟨k3, i3⟩ := hp
      obtain ⟨l3, r3, l4, k4⟩ := close (some (.exit id)) X3 k3
      exact ⟨_, _, r3, .inr ⟨rfl, .exit id, (hIx _).putObj _ i3 (by omega) l3 rfl, l4, k4⟩⟩
    | goto t =>
      obtain ⟨k3, i3⟩ := hp
      obtain ⟨l3, r3, l4, k4⟩ := close (some (.goto t)) X3 k3
      exact ⟨_, _, r3, .inr ⟨rfl, .goto t, (hIx _).putObj _ i3 (by omega) l3 rfl, l4, k4⟩⟩
    | panic ch => exact hp.elim
    | outgrown => exact hp.elim
  · rintro e X ⟨⟨v, rfl⟩, (⟨xs, hS, hi, hl, hk⟩ | ⟨pre, hSp, c, hi, hl, hk⟩)⟩
    · exact ⟨none, _, run_endLoop (P := P) hl (by simp), hdone xs _ hS (hI.putObj _ hi (by omega) hl rfl) ((World.putObj_heap_other (by omega)).trans hk)⟩
    · exact ⟨some c, _, run_endLoop (P := P) hl (by simp), hstop c pre _ hSp ((hIx c).putObj _ hi (by omega) hl rfl) ((World.putObj_heap_other (by omega)).trans hk)⟩
end Go.Proofs.YtoghcefamoefpaaGreatDoor

/- Numbers: as the library reads them. -/
namespace Go.Proofs.YtoghcefamoefpaaGreatDoor
set_option linter.unusedVariables false

abbrev stepD (a : Nat) (d : UInt8) : Nat := a * 10 + (d.toNat - 48)
theorem fold_ge : ∀ (l : Tx) (a : Nat), a * 10 ^ l.length ≤ l.foldl stepD a
  | [], a => by simp
  | c :: r, a => by
    have h := fold_ge r (stepD a c)
    have h1 : a * 10 ≤ stepD a c := Nat.le_add_right _ _
    have h2 := Nat.mul_le_mul_right (10 ^ r.length) h1
    show a * 10 ^ (r.length + 1) ≤ r.foldl stepD (stepD a c)
    rw [Nat.pow_succ, Nat.mul_comm (10 ^ r.length) 10, ← Nat.mul_assoc]
    omega
theorem fold_acc (l : Tx) (a : Nat) : a ≤ l.foldl stepD a :=
  Nat.le_trans (Nat.le_mul_of_pos_right a (Nat.pow_pos (by decide))) (fold_ge l a)
theorem uint_ok {M : Nat} : ∀ (l : Tx) (a u : Nat), Lib.parseUintM M a l = .ok u → l.all isD = true ∧ u = l.foldl stepD a
  | [], a, u, h => by
    unfold Lib.parseUintM at h
    injection h with h
    exact ⟨rfl, h.symm⟩
  | c :: r, a, u, h => by
    unfold Lib.parseUintM at h
    split at h
    · next hc =>
      split at h
      · cases h
      · split at h
        · cases h
        · obtain ⟨h1, h2⟩ := uint_ok r _ u h
          exact ⟨by rw [List.all_cons, h1, (isD_iff c).2 hc]; rfl, h2⟩
    · cases h
theorem uint_of {M : Nat} (hM : M ≤ 4294967295) : ∀ (l : Tx) (a : Nat), l.all isD = true → l.foldl stepD a ≤ M → Lib.parseUintM M a l = .ok (l.foldl stepD a)
  | [], a, _, _ => rfl
  | c :: r, a, h, hv => by
    rw [List.all_cons, Bool.and_eq_true] at h
    have hc := (isD_iff c).1 h.1
    have hs : stepD a c ≤ M := Nat.le_trans (fold_acc r (stepD a c)) hv
    have ha : a ≤ M := by unfold stepD at hs; omega
    unfold Lib.parseUintM
    rw [if_pos hc, if_neg (by omega), if_neg (by unfold stepD at hs; omega)]
    exact uint_of hM r _ h.2 hv
theorem valD_eq (l : Tx) : valD l = l.foldl stepD 0 := rfl
/-- digits that are not too long. -/
theorem digits_len {c : UInt8} {r : Tx} (h : ¬ (0 < r.length ∧ c = 48)) (hd : isD c = true) (hv : valD (c :: r) ≤ 4294967295) : (c :: r).length ≤ 10 := by
  have hc := (isD_iff c).1 hd
  have hl : (c :: r).length = r.length + 1 := rfl
  rcases Nat.lt_or_ge 9 r.length with q | q
  · have h0 : c.toNat ≠ 48 := fun e => h ⟨by omega, UInt8.toNat_inj.1 e⟩
    have hg := fold_ge r (stepD 0 c)
    have h1 : 1 ≤ stepD 0 c := by unfold stepD; omega
    have h2 := Nat.mul_le_mul_right (10 ^ r.length) h1
    have h3 : (10 : Nat) ^ 10 ≤ 10 ^ r.length := Nat.pow_le_pow_right (by decide) (by omega)
    have h4 : valD (c :: r) = r.foldl stepD (stepD 0 c) := rfl
    have h5 : (10 : Nat) ^ 10 = 10000000000 := by decide
    omega
  · omega
/-- an unsigned number of the library, as digits. -/
theorem digP_lib (minus : Bool) (t : Tx) (h : ¬ (1 < t.length ∧ t.head? = some 48)) : digP minus t = match Lib.parseUintB 32 t with
    | .ok u => if minus then (if u ≤ 2147483648 then some (-(u : Int)) else none) else (if u ≤ 2147483647 then some (u : Int) else none)
    | _ => none := by
  cases t with
  | nil => rfl
  | cons c r =>
    have hn : ¬ (0 < r.length ∧ c = 48) := fun ⟨a, b⟩ => h ⟨by show 1 < r.length + 1; omega, by rw [b]; rfl⟩
    have hc : ((c :: r).head? == some 48 && decide (1 < (c :: r).length)) = false := by
      rw [Bool.and_eq_false_iff]
      by_cases hc : c = 48
      · right
        rw [decide_eq_false_iff_not]
        intro q
        exact h ⟨q, by rw [hc]; rfl⟩
      · left
        simpa using hc
    have hu : Lib.parseUintB 32 (c :: r) = Lib.parseUintM 4294967295 0 (c :: r) := by
      unfold Lib.parseUintB
      rw [if_neg (by simp)]
    unfold digP
    rw [hu, hc, Bool.or_false, show ((c :: r) == ([] : Tx)) = false from rfl, Bool.false_or]
    cases hp : Lib.parseUintM 4294967295 0 (c :: r) with
    | ok u =>
      obtain ⟨h1, h2⟩ := uint_ok _ _ _ hp
      have h3 : u = valD (c :: r) := h2
      dsimp only
      rw [h1, if_pos rfl, ← h3]
      have hd : isD c = true := by rw [List.all_cons, Bool.and_eq_true] at h1; exact h1.1
      by_cases hv : u ≤ 4294967295
      · have := digits_len hn hd (by omega)
        rw [if_neg (by simpa using this)]
      · rw [if_neg (by omega : ¬ u ≤ 2147483648), if_neg (by omega : ¬ u ≤ 2147483647)]
        simp
    | _ =>
      dsimp only
      split
      · rfl
      · split
        · next ha =>
          have : ¬ valD (c :: r) ≤ 4294967295 := fun hv => by
            have := uint_of (Nat.le_refl _) _ 0 ha hv
            rw [hp] at this
            cases this
          rw [if_neg (by omega : ¬ valD (c :: r) ≤ 2147483648), if_neg (by omega : ¬ valD (c :: r) ≤ 2147483647)]
          simp
        · rfl
def needL (s : Tx) : Bool := decide (1 < (Lib.trimPrefix s [45]).length) && (Lib.trimPrefix s [45]).head? == some 48
def parL (s : Tx) : Option Int := match Lib.parseIntB 32 s with
  | .ok v => some v
  | _ => none
theorem num_lib (s : Tx) : numP s = if needL s || Lib.hasPrefix s [43] then none else parL s := by
  cases s with
  | nil => rfl
  | cons c r =>
    by_cases h45 : c = 45
    · subst h45
      have ht : Lib.trimPrefix (45 :: r) [45] = r := rfl
      have hp : Lib.hasPrefix (45 :: r) [43] = false := rfl
      have e : numP (45 :: r) = digP true r := rfl
      unfold needL parL
      rw [e, ht, hp, Bool.or_false]
      by_cases hn : 1 < r.length ∧ r.head? = some 48
      · rw [if_pos (by simp [hn.1, hn.2])]
        unfold digP
        rw [show (r.head? == some 48) = true by simp [hn.2], decide_eq_true hn.1]
        simp
      · rw [if_neg (by simpa using hn), digP_lib true r hn]
        unfold Lib.parseIntB
        dsimp only
        rw [if_pos (by decide)]
        cases Lib.parseUintB 32 r with
        | ok u =>
          dsimp only
          rw [if_pos rfl]
          by_cases hu : u ≤ 2147483648
          · rw [if_pos hu, if_neg (by rintro ⟨q, _⟩; exact q rfl), if_neg (by rintro ⟨_, q⟩; omega)]
            rfl
          · rw [if_neg hu, if_neg (by rintro ⟨q, _⟩; exact q rfl), if_pos ⟨rfl, by omega⟩]
        | _ => rfl
    · have hc45 : c.toNat ≠ 45 := fun e => h45 (UInt8.toNat_inj.1 e)
      have ht : Lib.trimPrefix (c :: r) [45] = c :: r := by
        unfold Lib.trimPrefix Lib.hasPrefix
        rw [if_neg (by simp [List.isPrefixOf, Ne.symm h45])]
      have e : numP (c :: r) = digP false (c :: r) := by
        unfold numP
        split
        · next q => injection q with q; exact absurd q h45
        · rfl
      unfold needL parL
      rw [e, ht]
      by_cases h43 : c = 43
      · subst h43
        rw [if_pos (by rw [show Lib.hasPrefix (43 :: r) [43] = true from rfl, Bool.or_true])]
        unfold digP
        split
        · rfl
        · rw [if_neg (by rw [List.all_cons]; simp [isD])]
      · have hc43 : c.toNat ≠ 43 := fun e => h43 (UInt8.toNat_inj.1 e)
        have hp : Lib.hasPrefix (c :: r) [43] = false := by
          unfold Lib.hasPrefix
          simp [List.isPrefixOf, Ne.symm h43]
        rw [hp, Bool.or_false]
        by_cases hn : 1 < (c :: r).length ∧ (c :: r).head? = some 48
        · rw [if_pos (by rw [decide_eq_true hn.1, show ((c :: r).head? == some 48) = true by rw [hn.2]; rfl]; rfl)]
          unfold digP
          rw [show ((c :: r).head? == some 48) = true by rw [hn.2]; rfl, decide_eq_true hn.1]
          simp
        · rw [if_neg (by rw [Bool.and_eq_true, decide_eq_true_eq, beq_iff_eq]; exact hn), digP_lib false _ hn]
          unfold Lib.parseIntB
          dsimp only
          rw [if_neg (by rintro (q | q); exact hc43 q; exact hc45 q)]
          cases Lib.parseUintB 32 (c :: r) with
          | ok u =>
            dsimp only
            rw [if_neg (by decide)]
            by_cases hu : u ≤ 2147483647
            · rw [if_pos hu, if_neg (by rintro ⟨_, q⟩; omega), if_neg (by rintro ⟨q, _⟩; exact hc45 q), if_neg hc45]
            · rw [if_neg hu, if_pos ⟨hc45, by omega⟩]
          | _ => rfl
end Go.Proofs.YtoghcefamoefpaaGreatDoor
