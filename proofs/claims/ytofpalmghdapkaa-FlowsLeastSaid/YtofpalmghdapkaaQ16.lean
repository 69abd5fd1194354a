/- Lemmas, several texts in one. -/
import Derived.Test.YtofpalmghdapkaaQ14
import Derived.Test.YtofpalmghdapkaaQ04
import Derived.Test.YtofpalmghdapkaaQ15
import Derived.Test.YtofpalmghdapkaaQ13
/- The document's own answers for package flows: Tick. -/
namespace Go.Proofs.Ytofpalmghdapkaa
open Go.ChangeShapes Go.WideShapes Go.ChangeAt Go.RowKit
set_option linter.unusedVariables false
set_option linter.unusedSimpArgs false

/-- a store, flows and a number are answered. -/
def SdP5 (w : World) (A0 B0 : Option Addr) (q : Sr × List Fl × Int) (e : Ending) (w' : World) : Prop := ∃ A c B d G g, e = .returned (.tuple #[sdV q.1 A c B d, .slice G q.2.1.length g, .int .i64 q.2.2]) ∧ SdNew w w' A0 B0 q.1 A c B d ∧ FlsAt w' q.2.1 G g ∧ FrR w w' G
/-- while what is due is taken off. -/
structure TkF (w : World) (x : Sr) (A B : Option Addr) (now : Int) (wr : World) (lc : List (Option Fl)) (A1 : Option Addr) (c1 : Nat) (B1 : Option Addr) (d1 : Nat) (dn : List Fl) (G : Option Addr) (g : Nat) : Prop where
  box : Bxo wr w.heap.size 31 (sdL ⟨lc, now⟩ A1 c1 B1 d1)
  zero : Bxo wr (w.heap.size + 1) 31 (sdL sr0 none 0 none 0)
  sd : SdAt wr ⟨lc, now⟩ A1 c1 B1 d1
  len : lc.length = x.slots.length
  own : wr.ownsRow (w.heap.size + 2) 40 12 (.slice G dn.length g) dn.length (dn.flatMap Fl.L)
  below : Below w.heap.size w wr
  due : dn ++ (dueA (alF lc) now).map (flowA lc) = (dueA (alF x.slots) now).map (flowA x.slots)
  left : lc.map (stays now) = x.slots.map (stays now)
  cnt : dn.length + (alF lc).length = (alF x.slots).length
  fresh : (A1 = A ∧ B1 = B) ∨ (FrR w wr A1 ∧ FrR w wr B1)
  apart : ∀ ad, A1 = some ad ∨ B1 = some ad → ad.block ≠ w.heap.size ∧ ad.block ≠ w.heap.size + 1 ∧ blk G ≠ some ad.block ∧ ad.block < wr.heap.size
theorem grownF2 {w w' : World} {row : Option Nat} {B : Nat} (h : w.grownBy w' row) (hr : ∀ g, row = some g → B ≤ g) (hB : B ≤ w.heap.size) : Below B w w' :=
  ⟨h.os, h.tape, h.output, h.size, fun b hb => h.block b (by omega) (fun e => by have := hr b e.symm; omega)⟩
def lenV12 (v : Value) : Nat := match v with
  | .slice _ n _ => n
  | _ => 0
set_option maxRecDepth 100000 in
set_option maxHeartbeats 16000000 in
theorem rtick12 (x : Sr) (A : Option Addr) (c : Nat) (B : Option Addr) (d : Nat) (now : Int) (w : World) (h : SdAt w x A c B d) (hx : x.slots.length ≤ 256) (hlt : ∀ ad, A = some ad ∨ B = some ad → ad.block < w.heap.size) (q : Sr × List Fl × Int) (hq : tickF x now = q) :
    Calls Try.prog 20 #[sdV x A c B d, .int .i64 now] w (SdP5 w A B q) := by
  have y0 : Below w.heap.size w ((w.alloc (oSd x A c B d)).alloc (oSd sr0 none 0 none 0)) := below_alloc (below_alloc (Below.refl _ _) (Nat.le_refl _) _) (by simp) _
  have h1 := (Bxo.made w 31 (sdL x A c B d)).alloc (oSd sr0 none 0 none 0)
  have h2 : Bxo ((w.alloc (oSd x A c B d)).alloc (oSd sr0 none 0 none 0)) (w.heap.size + 1) 31 (sdL sr0 none 0 none 0) := by
    have := Bxo.made (w.alloc (oSd x A c B d)) 31 (sdL sr0 none 0 none 0)
    simpa using this
  have HC := Go.Lib.hid (h.at y0)
  have HC0 := Go.Lib.hid h
  have HLT := Go.Lib.hid hlt
  obtain ⟨i0_, hi_, hz0, hz1, hz2⟩ := info_parts info_flz
  clear h hlt
  go_enter Try.func20, Try.ntmps20
  go_upto_region 1 with fail
  have hws : ((w.alloc (oSd x A c B d)).alloc (oSd sr0 none 0 none 0)).heap.size = w.heap.size + 2 := by simp
  generalize ((w.alloc (oSd x A c B d)).alloc (oSd sr0 none 0 none 0)) = W at *
  have HX := Go.Lib.hid h1
  have HZ := Go.Lib.hid h2
  have hws1 : w.heap.size + 2 ≤ W.heap.size := by omega
  have z2 := HX.out.cell 2 rfl
  clear h1 h2 hws
  by_cases hbad : now < x.now ∨ now > 1099511627776
  · have HQ : Hid (q = (x, [], 1)) := Go.Lib.hid (by rw [← hq]; unfold tickF; rw [if_pos hbad])
    clear hq
    by_cases hb1 : now < x.now
    · clear hbad
      go_wp2_with (first
        | (refine wpList_load_box rfl 31 _ rfl w.heap.size rfl (sdL x A c B d) _ HX.out Try.underlying31 rfl info_sd ?_)
        | (refine wpList_store_any rfl 31 _ _ rfl (w.heap.size + 1) 0 31 _ (sdL x A c B d) _ rfl rfl rfl HZ.out info_sd (by show 0 + 3 ≤ 3; omega) (by simp [Value.oneCell']) ?_; intro wF hbF hoF; have HBF := Go.Lib.hid hbF; clear hbF))
      have xF := y0.trans (hoF.below (show w.heap.size ≤ w.heap.size + 1 by omega))
      exact bodyPost_ret (v := .tuple #[.agg (sdL x A c B d).toArray, .slice none 0 0, .int .i64 1]) (results_ctt (p := 4) (u := 5) (v := 6) rfl _ _ (w.heap.size + 1) _ _ rfl HBF.out Try.underlying31 rfl info_sd) rfl ⟨A, c, B, d, none, 0, by rw [HQ.out]; rfl, by rw [HQ.out]; exact SdNew.stay HC0.out xF, by rw [HQ.out]; exact ⟨Nat.le_refl _, by omega, fun _ => rfl, .inl rfl⟩, fun ad e => by cases e⟩
    · have hb2 : 1099511627776 < now := by omega
      clear hbad
      go_wp2_with (first
        | (refine wpList_load_box rfl 31 _ rfl w.heap.size rfl (sdL x A c B d) _ HX.out Try.underlying31 rfl info_sd ?_)
        | (refine wpList_store_any rfl 31 _ _ rfl (w.heap.size + 1) 0 31 _ (sdL x A c B d) _ rfl rfl rfl HZ.out info_sd (by show 0 + 3 ≤ 3; omega) (by simp [Value.oneCell']) ?_; intro wF hbF hoF; have HBF := Go.Lib.hid hbF; clear hbF))
      have xF := y0.trans (hoF.below (show w.heap.size ≤ w.heap.size + 1 by omega))
      exact bodyPost_ret (v := .tuple #[.agg (sdL x A c B d).toArray, .slice none 0 0, .int .i64 1]) (results_ctt (p := 4) (u := 5) (v := 6) rfl _ _ (w.heap.size + 1) _ _ rfl HBF.out Try.underlying31 rfl info_sd) rfl ⟨A, c, B, d, none, 0, by rw [HQ.out]; rfl, by rw [HQ.out]; exact SdNew.stay HC0.out xF, by rw [HQ.out]; exact ⟨Nat.le_refl _, by omega, fun _ => rfl, .inl rfl⟩, fun ad e => by cases e⟩
  · have HQ : Hid (q = (⟨x.slots.map (stays now), now⟩, (dueA (alF x.slots) now).map (flowA x.slots), 0)) := Go.Lib.hid (by rw [← hq]; unfold tickF; rw [if_neg hbad]; rfl)
    have n0 : ¬ now < x.now := by omega
    have n1 : ¬ 1099511627776 < now := by omega
    clear hq hbad
    go_upto_region 4 with (first
      | (refine wpList_store_any rfl 3 _ _ rfl w.heap.size 2 31 _ [.int .i64 now] _ rfl rfl rfl HX.out info_i12 (by show 2 + 1 ≤ 3; omega) (by simp [Value.oneCell']) ?_; intro w3 hb3 ho3; have HB3 : Hid (Bxo w3 w.heap.size 31 (sdL ⟨x.slots, now⟩ A c B d)) := Go.Lib.hid hb3; have HZ3 := Go.Lib.hid (HZ.out.only ho3 (by omega)); clear hb3))
    have HI0 : Hid (TkF w x A B now w3 x.slots A c B d [] none 0) := Go.Lib.hid ⟨HB3.out, HZ3.out, ⟨(HC.out.keepR (w' := w3) fun ad e => ho3.block _ (by have := HLT.out ad e; omega)).used, (HC.out.keepR (w' := w3) fun ad e => ho3.block _ (by have := HLT.out ad e; omega)).flows⟩, rfl, own_none _ _ _ _, y0.trans (ho3.below (Nat.le_refl _)), rfl, rfl, by simp, .inl ⟨rfl, rfl⟩, fun ad e => ⟨by have := HLT.out ad e; omega, by have := HLT.out ad e; omega, (fun e => by cases e), by have h1 := HLT.out ad e; have h2 := ho3.size; omega⟩⟩
    clear HX HZ HC HB3 HZ3 z2 n0 n1
    go_wp2_with fail
    go_loopw [7] (fun o wr => ∃ (lc : List (Option Fl)) (A1 : Option Addr) (c1 : Nat) (B1 : Option Addr) (d1 : Nat) (dn : List Fl) (G : Option Addr) (g : Nat), o = .slice G dn.length g ∧ Hid (TkF w x A B now wr lc A1 c1 B1 d1 dn G g)) (fun o _ => x.slots.length + 1 - lenV12 o)
    case atStart => exact ⟨x.slots, A, c, B, d, [], none, 0, rfl, HI0⟩
    case round =>
      rename World => wo
      obtain ⟨lc, A1, c1, B1, d1, dn, G, g, rfl, HI⟩ := hrel
      have hcnt := HI.out.cnt
      have hal := alF_length x.slots
      have hll := HI.out.len
      have HLL := Go.Lib.hid hll
      clear HI0
      go_wp2_with fail
      go_loopw [8, 9] (fun b i wr => ∃ (k : Nat) (bi : Int), b = .int .i64 bi ∧ i = .int .i64 k ∧ k ≤ lc.length ∧ Hid (BestF lc now k bi) ∧ Below wo.heap.size wo wr) (fun b i _ => lc.length - (intOf i).toNat)
      case atStart => exact ⟨0, -1, rfl, rfl, by omega, Go.Lib.hid (BestF.zero _ _), Below.refl _ _⟩
      case round =>
        rename World => wi
        obtain ⟨k, bi, rfl, rfl, hk, HBI, yi⟩ := hrel
        have hb0 := HI.out.box.keep yi HI.out.box.lt
        have z0 := hb0.cell 0 rfl
        have z1 := hb0.cell 1 rfl
        have hsd := HI.out.sd.at yi
        have hlc := hsd.ulen
        have hld := hsd.flen
        dsimp only at hlc hld
        by_cases hkl : k < lc.length
        · obtain ⟨ad, rfl, hu⟩ := hsd.ucell hkl
          obtain ⟨bd, rfl, hf⟩ := hsd.fcell hkl
          have k1 : (0 : Int) ≤ (k : Int) := by omega
          have k2 : (k : Int) < (lc.length : Int) := by omega
          have d0 := hu wi (Below.refl _ _)
          have q10 := at_off (k := k * 12) 10 (by have := hf wi (Below.refl _ _) 10 _ rfl; rwa [add_add] at this) (by omega)
          dsimp only at d0 q10
          clear hu hf
          cases hs : slotF lc k with
          | none =>
            rw [hs] at d0
            have HS := Go.Lib.hid hs
            clear q10 hs hsd hb0
            dsimp only [Option.isSome] at d0
            go_upto_region 9 with fail
            go_quiet (fail)
            go_wp2
            go_round
            case rel => exact ⟨k + 1, bi, rfl, by go_num, by omega, Go.Lib.hid (HBI.out.skip (fun f e => by rw [HS.out] at e; cases e)), below_dn yi _⟩
            case measure => simp [intOf]; omega
          | some f =>
            rw [hs] at d0 q10
            have HS := Go.Lib.hid hs
            dsimp only [Option.isSome, Option.getD] at d0 q10
            obtain ⟨u, hu⟩ : ∃ u, f.until_ = u := ⟨_, rfl⟩
            rw [hu] at q10
            have HU := Go.Lib.hid hu
            clear hs hu
            by_cases hd : u ≤ now
            · by_cases hb : bi < 0
              · clear hsd hb0
                go_upto_region 9 with fail
                go_quiet (fail)
                go_wp2
                go_round
                case rel => exact ⟨k + 1, _, rfl, by go_num, by omega, Go.Lib.hid (HBI.out.first hb HS.out (by rw [HU.out]; exact hd)), below_dn yi _⟩
                case measure => simp [intOf]; omega
              · obtain ⟨p, fp, rfl, hpk, hps, hpd, _⟩ := HBI.out.yes (by omega)
                have hpl : p < lc.length := by omega
                obtain ⟨bd', e', hfp⟩ := hsd.fcell hpl
                cases e'
                have r10 := at_off (k := p * 12) 10 (by have := hfp wi (Below.refl _ _) 10 _ rfl; rwa [add_add] at this) (by omega)
                dsimp only at r10
                rw [hps] at r10
                dsimp only [Option.getD] at r10
                obtain ⟨v, hv⟩ : ∃ v, fp.until_ = v := ⟨_, rfl⟩
                rw [hv] at r10
                have HV := Go.Lib.hid hv
                have HPS := Go.Lib.hid hps
                have p1 : (0 : Int) ≤ (p : Int) := by omega
                have p2 : (p : Int) < (lc.length : Int) := by omega
                clear hsd hb0 hfp hv hps hpd
                by_cases hl : u < v
                · go_upto_region 9 with fail
                  go_quiet (fail)
                  go_wp2
                  go_round
                  case rel => exact ⟨k + 1, _, rfl, by go_num, by omega, Go.Lib.hid (HBI.out.less HPS.out HS.out (by rw [HU.out]; exact hd) (by rw [HU.out, HV.out]; exact hl)), below_dn yi _⟩
                  case measure => simp [intOf]; omega
                · go_upto_region 9 with fail
                  go_quiet (fail)
                  go_wp2
                  go_round
                  case rel => exact ⟨k + 1, _, rfl, by go_num, by omega, Go.Lib.hid (HBI.out.more HPS.out HS.out (by rw [HU.out, HV.out]; exact hl)), below_dn yi _⟩
                  case measure => simp [intOf]; omega
            · clear hsd hb0
              go_upto_region 9 with fail
              go_quiet (fail)
              go_wp2
              go_round
              case rel => exact ⟨k + 1, _, rfl, by go_num, by omega, Go.Lib.hid (HBI.out.skip (fun f' e => by rw [HS.out] at e; cases e; rw [HU.out]; omega)), below_dn yi _⟩
              case measure => simp [intOf]; omega
        · obtain rfl : k = lc.length := by omega
          have k2 : ¬ (lc.length : Int) < (lc.length : Int) := by omega
          have HBW := Go.Lib.hid hb0
          have HZW := Go.Lib.hid (HI.out.zero.keep yi HI.out.zero.lt)
          have HOW := Go.Lib.hid (own_keepA (w' := wi) HI.out.own (fun g hg => yi.block g (own_ltF HI.out.own g hg)))
          have HSW := Go.Lib.hid hsd
          have yw := HI.out.below.trans (yi.mono HI.out.below.size)
          clear hb0 hsd
          by_cases hb : bi < 0
          · obtain ⟨hd0, hl0⟩ := HBI.out.end0 hb
            have HD0 : Hid ((dueA (alF x.slots) now).map (flowA x.slots) = dn) := Go.Lib.hid (by have := HI.out.due; rw [hd0] at this; simpa using this.symm)
            have HL0 : Hid (x.slots.map (stays now) = lc) := Go.Lib.hid (by have := HI.out.left; rw [hl0] at this; exact this.symm)
            clear hd0 hl0 hll hcnt
            go_wp2_with (first
              | (refine wpList_load_box rfl 31 _ rfl w.heap.size rfl (sdL ⟨lc, now⟩ A1 c1 B1 d1) _ HBW.out Try.underlying31 rfl info_sd ?_)
              | (refine wpList_store_any rfl 31 _ _ rfl (w.heap.size + 1) 0 31 _ (sdL ⟨lc, now⟩ A1 c1 B1 d1) _ rfl rfl rfl HZW.out info_sd (by show 0 + 3 ≤ 3; omega) (by simp [Value.oneCell']) ?_; intro wF hbF hoF; have HBF := Go.Lib.hid hbF; clear hbF))
            have xF := yw.trans (hoF.below (show w.heap.size ≤ w.heap.size + 1 by omega))
            have hz1 := hoF.size
            have hz2 := yi.size
            refine bodyPost_ret (v := .tuple #[.agg (sdL ⟨lc, now⟩ A1 c1 B1 d1).toArray, .slice G dn.length g, .int .i64 0]) (results_ctt (p := 4) (u := 5) (v := 6) rfl _ _ (w.heap.size + 1) _ _ rfl HBF.out Try.underlying31 rfl info_sd) rfl
              ⟨A1, c1, B1, d1, G, g, by rw [HQ.out, HD0.out, HL0.out], ?_, ?_, ?_⟩
            · rw [HQ.out, HL0.out]
              refine ⟨HSW.out.keepR (fun ad e => hoF.block _ (HI.out.apart ad e).2.1), xF, HI.out.fresh.imp id (fun f => ⟨fun ad e => ⟨(f.1 ad e).1, by have := (f.1 ad e).2; omega⟩, fun ad e => ⟨(f.2 ad e).1, by have := (f.2 ad e).2; omega⟩⟩)⟩
            · rw [HQ.out, HD0.out]
              exact FlsAt.ofOwn rfl (own_keepA HOW.out (fun g hg => hoF.block _ (by have := own_geF HOW.out g hg; omega)))
            · intro ad e
              have h1 := own_geF HOW.out ad.block (by rw [e]; rfl)
              have h2 := own_ltF HOW.out ad.block (by rw [e]; rfl)
              exact ⟨by omega, by omega⟩
          · obtain ⟨p, fp, rfl, hpl, hps, hd1, hl1, hc1⟩ := HBI.out.end1 (by omega)
            obtain ⟨bd, rfl, hcp⟩ := HSW.out.fcell hpl
            rw [hps] at hcp
            dsimp only [Option.getD] at hcp
            have HCP := Go.Lib.hid (hcp wi (Below.refl _ _))
            have p1 : (0 : Int) ≤ (p : Int) := by omega
            have p2 : (p : Int) < (lc.length : Int) := by omega
            have HD1 := Go.Lib.hid hd1
            have HL1 := Go.Lib.hid hl1
            have HC1 := Go.Lib.hid hc1
            have HPS := Go.Lib.hid hps
            have hgl := HBW.out.lt
            have hzl := HZW.out.lt
            have hdn : dn.length + (alF (lc.set p none)).length + 1 = (alF x.slots).length := by omega
            have HLN : Hid ((lc.set p none).length = x.slots.length) := Go.Lib.hid (by rw [List.length_set]; exact HLL.out)
            have hlx : lc.length ≤ 256 := by omega
            clear hcp hd1 hl1 hps hc1 hcnt hll
            go_upto_region 14 with (first
              | (refine wpList_load_at rfl 40 _ rfl (bd.add (p * 12)) rfl (flL fp) _ HCP.out Try.underlying40 rfl info_fl ?_)
              | (at_builtin; refine wpList_append_rdK rfl _ _ 29 rfl (w.heap.size + 2) 40 i0_ _ 12 96 Try.underlying29 hi_ hz0 hz1 hz2 rfl (by omega) (.slice G dn.length g) dn.length (dn.flatMap Fl.L) rfl (own_keepA HOW.out (fun g hg => Below.heap_alloc wi _ g (own_ltF HOW.out g hg))) (some ⟨wi.heap.size, 0, none⟩) 1 1 (flL fp) rfl rfl (fun e => by cases e) (.inr ⟨_, rfl, (Bxo.made wi 40 (flL fp)).at⟩) (by simp [Value.oneCell']) (by unfold maxLen; omega) (by omega) (by simp; omega) ?_; intro v10 w10 ho10 hg10 hat10; obtain ⟨A10, c10, rfl⟩ := own_slice ho10; have y10 := (below_alloc (Below.refl _ _) (show w.heap.size + 2 ≤ wi.heap.size by omega) (oFl fp)).trans (grownF2 hg10 (fun g e => by rw [ownBlock_blk] at e; exact own_geF HOW.out g e) (by simp; omega)); have HB10 := Go.Lib.hid (HBW.out.keep y10 (by omega)); have HZ10 := Go.Lib.hid (HZW.out.keep y10 (by omega)); have HAL10 := Go.Lib.hid (HSW.out.keepR (w' := w10) (fun ad2 e => (hg10.block _ (by have := (HI.out.apart ad2 e).2.2.2; have := yi.size; simp; omega) (fun q => by rw [ownBlock_blk] at q; exact (HI.out.apart ad2 e).2.2.1 q.symm)).trans (Below.heap_alloc wi _ _ (by have := (HI.out.apart ad2 e).2.2.2; have := yi.size; omega)))); have HO10 := Go.Lib.hid ho10; clear ho10 hg10 hat10 z0 z1; dsimp only))
            have hg10 := HB10.out.lt
            have hz10 := HZ10.out.lt
            go_wp2_with (first
              | (refine wpList_load_box rfl 31 _ rfl w.heap.size rfl (sdL ⟨lc, now⟩ A1 c1 (some bd) d1) _ HB10.out Try.underlying31 rfl info_sd ?_)
              | (go_at_call 42; refine (rwith12 ⟨lc, now⟩ A1 c1 (some bd) d1 p none w10 HAL10.out hpl hlx false rfl fl0 rfl).mono ?_; rintro e w11 ⟨A11, c11, B11, d11, rfl, hn11⟩; have HN11 := Go.Lib.hid hn11; have HB11 := Go.Lib.hid (HB10.out.keep hn11.below HB10.out.lt); have HZ11 := Go.Lib.hid (HZ10.out.keep hn11.below HZ10.out.lt); have HO11 := Go.Lib.hid (own_keepA (w' := w11) HO10.out (fun g hg => hn11.below.block g (own_ltF HO10.out g hg))); clear hn11; dsimp only)
              | (refine wpList_store_any rfl 31 _ _ rfl w.heap.size 0 31 _ (sdL ⟨lc.set p none, now⟩ A11 c11 B11 d11) _ rfl rfl rfl HB11.out info_sd (by show 0 + 3 ≤ 3; omega) (by simp [Value.oneCell']) ?_; intro w12 hb12 ho12; have HB12 := Go.Lib.hid hb12; clear hb12))
            have hs12 := ho12.size
            have hs11 := HN11.out.below.size
            go_round
            case rel => exact ⟨_, _, _, ⟨lc.set p none, A11, c11, B11, d11, dn ++ [fp], A10, c10, by rw [List.length_append]; rfl, Go.Lib.hid ⟨HB12.out, HZ11.out.only ho12 (by omega),
              HN11.out.sd.keepR (fun ad e => ho12.block _ (by have := e.elim (fun e => (HN11.out.fa ad e).1) (fun e => (HN11.out.fb ad e).1); omega)), HLN.out,
              own_keepA (by rw [List.length_append, List.flatMap_append]; simpa [Fl.L] using HO11.out) (fun g hg => ho12.block _ (by have := own_geF HO11.out g hg; omega)),
              yw.trans ((y10.mono (by omega)).trans ((HN11.out.below.mono (by omega)).trans (ho12.below (Nat.le_refl _)))),
              by rw [← HI.out.due, HD1.out, List.map_cons, List.append_assoc, flowA_set hpl]; simp [flowA, HPS.out], HL1.out.trans HI.out.left, by rw [List.length_append]; show dn.length + 1 + _ = _; omega,
              .inr ⟨fun ad e => ⟨by have := (HN11.out.fa ad e).1; omega, by have := (HN11.out.fa ad e).2; omega⟩, fun ad e => ⟨by have := (HN11.out.fb ad e).1; omega, by have := (HN11.out.fb ad e).2; omega⟩⟩,
              fun ad e => by
                have h1 := e.elim (fun e => HN11.out.fa ad e) (fun e => HN11.out.fb ad e)
                refine ⟨by omega, by omega, fun q => ?_, by omega⟩
                have := own_ltF HO10.out _ q
                omega⟩⟩, rfl, rfl, rfl⟩
            case measure => simp only [lenV12]; omega
end Go.Proofs.Ytofpalmghdapkaa

/- A store of flows, and the document's own beside it in a box; what a nil store is answered. -/
namespace Go.Proofs.Ytofpalmghdapkaa
open Go.ChangeShapes Go.WideShapes Go.ChangeAt Go.RowKit
set_option linter.unusedVariables false
set_option linter.unusedSimpArgs false

/-- what a nil store is answered. -/
structure StoreN : Prop where
  add : ∀ (f : Fl) (w : World), Calls Try.prog 9 #[.pointer none, flV f] w fun e w' => e = .returned (.tuple #[.int .i64 0, .int .i64 1]) ∧ Below w.heap.size w w'
  find : ∀ (t : Tp) (w : World), Calls Try.prog 10 #[.pointer none, tpV t] w fun e w' => e = .returned (.tuple #[.int .i64 0, .bool false, .bool false]) ∧ Below w.heap.size w w'
  get : ∀ (n : Int) (w : World), Calls Try.prog 11 #[.pointer none, .int .i64 n] w fun e w' => e = .returned (.tuple #[flV fl0, .bool false]) ∧ Below w.heap.size w w'
  set : ∀ (n u no : Int) (w : World), Calls Try.prog 14 #[.pointer none, .int .i64 n, .int .i64 u, .int .i64 no] w fun e w' => e = .returned (.int .i64 1) ∧ Below w.heap.size w w'
  drop : ∀ (n : Int) (w : World), Calls Try.prog 12 #[.pointer none, .int .i64 n] w fun e w' => e = .returned (.tuple #[flV fl0, .int .i64 1]) ∧ Below w.heap.size w w'
  tick : ∀ (n : Int) (w : World), Calls Try.prog 13 #[.pointer none, .int .i64 n] w fun e w' => ∃ A c, e = .returned (.tuple #[.slice A 0 c, .int .i64 1]) ∧ Below w.heap.size w w'
  all_ : ∀ (w : World), Calls Try.prog 15 #[.pointer none] w fun e w' => ∃ A c, e = .returned (.slice A 0 c) ∧ Below w.heap.size w w'
  len_ : ∀ (w : World), Calls Try.prog 16 #[.pointer none] w fun e w' => e = .returned (.int .i64 0) ∧ Below w.heap.size w w'
theorem SdNew.more {w w' w'' : World} {A0 B0 A B : Option Addr} {x : Sr} {c d : Nat} (h : SdNew w w' A0 B0 x A c B d) (y : Below w'.heap.size w' w'') : SdNew w w'' A0 B0 x A c B d :=
  ⟨h.sd.at y, h.below.trans (y.mono h.below.size), h.fresh.imp id (fun f => ⟨fun ad e => ⟨(f.1 ad e).1, Nat.lt_of_lt_of_le (f.1 ad e).2 y.size⟩, fun ad e => ⟨(f.2 ad e).1, Nat.lt_of_lt_of_le (f.2 ad e).2 y.size⟩⟩)⟩
structure RtF (K : StoreC) (w0 : World) (g : Nat) (ad : Addr) (xp xd : Sr) (F : Nat → Prop) (A : Option Addr) (c : Nat) (B : Option Addr) (d : Nat) (wr : World) : Prop where
  st : SrI K w0 ad xp F wr
  box : Bxo wr g 31 (sdL xd A c B d)
  sd : SdAt wr xd A c B d
  ge : w0.heap.size ≤ g
  gF : ¬ F g
  apart : ∀ b, A = some b ∨ B = some b → b.block ≠ g ∧ ¬ F b.block ∧ b.block < wr.heap.size
section
variable {K : StoreC} {w0 wr wx : World} {g : Nat} {ad : Addr} {xp xd xp' xd' : Sr} {F F' : Nat → Prop} {A A' B B' : Option Addr} {c c' d d' : Nat}
theorem RtF.call (h : RtF K w0 g ad xp xd F A c B d wr) (y : Below wr.heap.size wr wx) : RtF K w0 g ad xp xd F A c B d wx :=
  ⟨h.st.call y, h.box.keep y h.box.lt, h.sd.at y, h.ge, h.gF, fun b e => ⟨(h.apart b e).1, (h.apart b e).2.1, Nat.lt_of_lt_of_le (h.apart b e).2.2 y.size⟩⟩
/-- the program's store has turned. -/
theorem RtF.turn (h : RtF K w0 g ad xp xd F A c B d wr) (r : K.Rep wx ad xp' F') (n : Newer wr F F') (m : Moves wr wx F) : RtF K w0 g ad xp' xd F' A c B d wx :=
  ⟨h.st.turn r n m, (m.block g h.box.lt h.gF).trans h.box, h.sd.keepR fun b e => m.block _ (h.apart b e).2.2 (h.apart b e).2.1, h.ge, fun f => (n g f).elim h.gF (fun q => by have := h.box.lt; omega),
    fun b e => ⟨(h.apart b e).1, fun f => (n _ f).elim (h.apart b e).2.1 (fun q => by have := (h.apart b e).2.2; omega), Nat.lt_of_lt_of_le (h.apart b e).2.2 m.size⟩⟩
/-- the document's own has answered anew, in wm; then its box is written, in wx. -/
theorem RtF.doc {wm : World} (h : RtF K w0 g ad xp xd F A c B d wr) (n : SdNew wr wm A B xd' A' c' B' d') (ho : Only g wm wx) (hb : Bxo wx g 31 (sdL xd' A' c' B' d')) : RtF K w0 g ad xp xd' F A' c' B' d' wx := by
  have h1 := h.call n.below
  have hap : ∀ b, A' = some b ∨ B' = some b → b.block ≠ g ∧ ¬ F b.block ∧ b.block < wm.heap.size := fun b e => by
    rcases n.fresh with ⟨rfl, rfl⟩ | ⟨fa, fb⟩
    · exact h1.apart b e
    · have h2 := e.elim (fun e => fa b e) (fun e => fb b e)
      refine ⟨by have := h.box.lt; omega, fun f => ?_, h2.2⟩
      have := K.lt h.st.rep _ f
      omega
  exact ⟨⟨K.keep h1.st.rep (fun b hb => ho.block b (fun e => h.gF (e ▸ hb))) (Nat.le_of_eq ho.size.symm), h1.st.ge, h1.st.below.trans (ho.below h.ge)⟩, hb, n.sd.keepR fun b e => ho.block _ (hap b e).1, h.ge, h.gF, fun b e => ⟨(hap b e).1, (hap b e).2.1, by rw [ho.size]; exact (hap b e).2.2⟩⟩
theorem RtF.rows (h : RtF K w0 g ad xp xd F A c B d wr) : ∀ b, A = some b ∨ B = some b → b.block < wr.heap.size := fun b e => (h.apart b e).2.2
end
/-- flows out of a store's hands. -/
structure FlsOut (F : Nat → Prop) (l : List Fl) (A : Option Addr) (c : Nat) (wr : World) : Prop where
  fls : FlsAt wr l A c
  out : ∀ b, A = some b → b.block < wr.heap.size ∧ ¬ F b.block
section
variable {F F' : Nat → Prop} {l : List Fl} {A : Option Addr} {c : Nat} {wr wx : World}
theorem FlsAt.keepR (h : FlsAt wr l A c) (hk : ∀ ad, A = some ad → wx.heap[ad.block]? = wr.heap[ad.block]?) : FlsAt wx l A c := by
  refine ⟨h.len, h.cap, h.nil, ?_⟩
  rcases h.rd with e | ⟨ad, e, hc⟩
  · exact .inl e
  · refine .inr ⟨ad, e, fun j u hj => ?_⟩
    rw [World.cell?_of_block (w := wr) (w' := wx) (a := ad.add j) (by rw [block_add]; exact hk ad e)]
    exact hc j u hj
theorem FlsOut.call (h : FlsOut F l A c wr) (y : Below wr.heap.size wr wx) : FlsOut F l A c wx := ⟨h.fls.at y, fun b e => ⟨Nat.lt_of_lt_of_le (h.out b e).1 y.size, (h.out b e).2⟩⟩
theorem FlsOut.only {g : Nat} (h : FlsOut F l A c wr) (ho : Only g wr wx) (hg : ∀ b, A = some b → b.block ≠ g) : FlsOut F l A c wx := ⟨h.fls.keepR (fun b e => ho.block _ (hg b e)), fun b e => ⟨by rw [ho.size]; exact (h.out b e).1, (h.out b e).2⟩⟩
theorem FlsOut.turn (h : FlsOut F l A c wr) (n : Newer wr F F') (m : Moves wr wx F) : FlsOut F' l A c wx := ⟨h.fls.keepR (fun b e => m.block _ (h.out b e).1 (h.out b e).2), fun b e => ⟨Nat.lt_of_lt_of_le (h.out b e).1 m.size, fun f => (n _ f).elim (h.out b e).2 (fun q => by have := (h.out b e).1; omega)⟩⟩
end
end Go.Proofs.Ytofpalmghdapkaa

/- The landed store of flows: New; all that a store owes. -/
namespace Go.Proofs.Ytofpalmghdapkaa
open Go.ChangeShapes Go.WideShapes Go.ChangeAt Go.RowKit
set_option linter.unusedVariables false
set_option linter.unusedSimpArgs false

theorem size_twice {p : Nat} (h : sizeC p = true) (hp : p < 1024) : sizeC (2 * p) = true := by
  unfold sizeC at h ⊢
  simp only [List.contains_eq_mem, decide_eq_true_eq, List.mem_cons, List.not_mem_nil, or_false] at h ⊢
  omega
/-- a value into new memory, as a step of a region that draws. -/
theorem step_box {P : Program} {op : Oper} {a : Act} {w : World} {K : Act → World → Prop} {Q : Exit → Act → World → Prop} (ty : TypeId) (x : Operand) (ho : op.op = .box ty x) (z : List Value) (hx : a.eval x = .agg z.toArray)
    (h : ∀ g w', (g ≤ w.heap.size ∧ w.heap.size ≤ g) → Bxo w' g ty z → Below w.heap.size w w' → K (a.put op.dst (.pointer (some ⟨g, 0, none⟩))) w') : op.wp P a w K Q := by
  have hr : (Instr.box ty (.agg z.toArray)).run P w = .ok (.pointer (some ⟨w.heap.size, 0, none⟩)) (w.alloc (.cells z.toArray ty)) := by
    simp [Instr.box, newVar, newRow, Value.cells]
  unfold Oper.wp execOp
  simp only [ho, hx, Sem.run_bind, Sem.run_pure, Result.andThen_ok, hr]
  exact h _ _ ⟨Nat.le_refl _, Nat.le_refl _⟩ (Bxo.made w ty z) ((Below.refl _ _).alloc (Nat.le_refl _) _)
set_option maxHeartbeats 4000000 in
theorem cplaces (n : Nat) (h1 : 1 ≤ n) (h2 : n ≤ 256) (w : World) :
    Calls Try.prog 27 #[.int .i64 (n : Int)] w fun e w' => ∃ N : Nat, e = .returned (.int .i64 (N : Int)) ∧ (sizeC N = true ∧ 4 * n ≤ N ∧ N ≤ 1024) ∧ w = w' := by
  have s1 : IntKind.i64.wrap (4 * (n : Int)) = 4 * (n : Int) := IntWalk.i64_in _ (by omega)
  go_enter Try.func27, Try.ntmps27
  go_wp2_with fail
  go_loopw [3] (fun v wr => ∃ p : Nat, v = .int .i64 (p : Int) ∧ Hid (sizeC p = true) ∧ p ≤ 1024 ∧ 1 ≤ p ∧ w = wr) (fun v _ => 1024 - (intOf v).toNat)
  case atStart => exact ⟨4, by simp, Go.Lib.hid rfl, by omega, by omega, by trivial⟩
  case round =>
    rename World => wo
    obtain ⟨p, rfl, hp, hp1, hp2, rfl⟩ := hrel
    by_cases hlt : p < 4 * n
    · have t1 : (p : Int) < 4 * (n : Int) := by omega
      have s2 : IntKind.i64.wrap ((p : Int) * 2) = (p : Int) * 2 := IntWalk.i64_in _ (by omega)
      go_wp2_with fail
      go_round
      case rel => exact ⟨2 * p, by go_num, Go.Lib.hid (size_twice hp.out (by omega)), by
        have h := size_twice hp.out (by omega)
        unfold sizeC at h
        simp only [List.contains_eq_mem, decide_eq_true_eq, List.mem_cons, List.not_mem_nil, or_false] at h
        omega, by omega, by trivial⟩
      case measure => simp [intOf]; omega
    · have t1 : ¬ (p : Int) < 4 * (n : Int) := by omega
      go_wp2_with fail
      go_ret
      exact ⟨p, rfl, ⟨hp.out, by omega, hp1⟩, rfl⟩
def SRep (w : World) (ad : Addr) (s : Sr) (F : Nat → Prop) : Prop := ∃ g sb n N t T c wd x FW, ad = ⟨g, 0, none⟩ ∧ FS w g sb n N s t T c wd x FW ∧ ∀ b, F b ↔ FB g sb T FW b
theorem SRep.of {w w' : World} {g sb n N : Nat} {s' : Sr} {T : Option Addr} {wd : Addr} {FW F : Nat → Prop} (hF : ∀ b, F b ↔ FB g sb T FW b) (h : FTo w w' g sb n N T wd FW s') : ∃ F', SRep w' ⟨g, 0, none⟩ s' F' ∧ Newer w F F' ∧ Moves w w' F := by
  obtain ⟨t', T', c', x', FW', h, hn, hm⟩ := h
  exact ⟨FB g sb T' FW', ⟨g, sb, n, N, t', T', c', wd, x', FW', rfl, h, fun b => Iff.rfl⟩, fun b hb => (hn b hb).imp (fun q => (hF b).2 q) id, hm.mono (fun b q => (hF b).2 q)⟩
set_option maxHeartbeats 4000000 in
theorem cnew0 (room : Int) (w : World) (h : newS room = none) : Calls Try.prog 7 #[.int .i64 room] w fun e w' => e = .returned (.tuple #[.pointer none, .int .i64 1]) ∧ Below w.heap.size w w' := by
  have h0 : room < 1 ∨ room > 256 := by
    unfold newS at h
    by_cases h0 : room < 1 ∨ room > 256
    · exact h0
    · rw [if_neg h0] at h; cases h
  clear h
  by_cases h1 : room < 1
  · go_enter Try.func7, Try.ntmps7
    go_wp2_with fail
    go_ret2
    exact ⟨rfl, Below.refl _ _⟩
  · have h2 : 256 < room := by omega
    go_enter Try.func7, Try.ntmps7
    go_wp2_with fail
    go_ret2
    exact ⟨rfl, Below.refl _ _⟩
/-- a store is answered, in new memory. -/
def NewP (w : World) (s : Sr) (e : Ending) (w' : World) : Prop := ∃ ad F, e = .returned (.tuple #[.pointer (some ad), .int .i64 0]) ∧ SRep w' ad s F ∧ (∀ b, F b → w.heap.size ≤ b) ∧ Below w.heap.size w w'
set_option maxRecDepth 100000 in
set_option maxHeartbeats 8000000 in
theorem cnew1 (room : Int) (w : World) (s : Sr) (h : newS room = some s) : Calls Try.prog 7 #[.int .i64 room] w (NewP w s) := by
  have h0 : ¬ (room < 1 ∨ room > 256) := fun q => by unfold newS at h; rw [if_pos q] at h; cases h
  obtain ⟨n, rfl⟩ := Int.eq_ofNat_of_zero_le (show 0 ≤ room by omega)
  have hr := RightS.new h
  have HRS := Go.Lib.hid hr.1
  have HWS := Go.Lib.hid (WhS.new h)
  have hs : s = ⟨List.replicate n none, 0⟩ := by unfold newS at h; rw [if_neg h0] at h; injection h with h; exact h.symm
  subst hs
  have HNONE := Go.Lib.hid hr.2.2.2
  have hn1 : 1 ≤ n := by omega
  have hn2 : n ≤ 256 := by omega
  have r1 : ¬ (n : Int) < 1 := by omega
  have r2 : ¬ 256 < (n : Int) := by omega
  have HMV := Go.Lib.hid (flows_made n)
  have HLF : Hid ((flowsF (List.replicate n none)).length = n) := Go.Lib.hid (by rw [flows_len, List.length_replicate])
  obtain ⟨i0_, hi_, hz0, hz1, hz2⟩ := info_parts info_flz
  clear h hr h0
  go_enter Try.func7, Try.ntmps7
  go_upto_region 4 with (first
    | (go_at_call 27; refine (cplaces n hn1 hn2 _).mono ?_; rintro e w1 ⟨N, rfl, hN, rfl⟩; have HN := Go.Lib.hid hN; have HTN := Go.Lib.hid (TabS.new (N := N) (room := n) hN.1); clear hN; dsimp only)
    | (go_at_call 26; refine (cnew (N : Int) _ _ HTN.out.1).mono ?_; rintro e w2 ht; obtain ⟨A, c, rfl, ht2, y2, hA⟩ := ht.nf (N := N) List.length_replicate; have HT2 := Go.Lib.hid ht2; have HA := Go.Lib.hid hA; clear ht2 hA; dsimp only))
  have HAL : Hid (∀ ad, A = some ad → w.heap.size ≤ ad.block ∧ ad.block < w2.heap.size) := Go.Lib.hid (fun ad e => by
    refine ⟨?_, HT2.out.lt (by rw [List.length_replicate]; have := HN.out.2.1; omega) ad e⟩
    rcases HA.out with q | q
    · rw [q] at e; cases e
    · exact q ad e)
  have hs2 := y2.size
  try simp only [Act.put, List.setIfInBounds_toArray, List.set_cons_zero, List.set_cons_succ]
  refine wp_region_held_drew (S := fun Y => Below w2.heap.size w2 Y) (by kernel_rfl) ?_ (fun hHeld => ?_)
  · exact below_drew (Below.refl _ _)
  refine wpAnyH_take (i := 0) (oi := ⟨some 18, _, _, _, _, _⟩) (v := ?_) rfl (by kernel_rfl) (by kernel_rfl) (by kernel_rfl) (fun _ _ _ h => h) (Or.inl ⟨by rfl, ?_⟩) (by assumption) ?_
  rotate_left
  · intro w hSw; (try dsimp only at hSw); go_simp; (try with_reducible rfl)
  try simp only [Act.put, List.setIfInBounds_toArray, List.set_cons_zero, List.set_cons_succ]
  refine wpAnyH_take (i := 2) (oi := ⟨some 20, _, _, _, _, _⟩) (v := ?_) rfl (by kernel_rfl) (by kernel_rfl) (by kernel_rfl) (fun _ _ _ h => h) (Or.inl ⟨by rfl, ?_⟩) (by assumption) ?_
  rotate_left
  · intro w hSw; (try dsimp only at hSw); go_simp; (try with_reducible rfl)
  try simp only [Act.put, List.setIfInBounds_toArray, List.set_cons_zero, List.set_cons_succ]
  refine wpAnyH_ready (rs := [1, 3]) (by kernel_rfl) (by simp) (AllReadyH.cons (o := ⟨some 19, _, _, _, _, _⟩) rfl (fun Kc hKc => ?_) (AllReadyH.cons (o := ⟨some 21, _, _, _, _, _⟩) rfl (fun Kc hKc => ?_) AllReadyH.nil))
  ·
    rw [if_pos (by rfl)]
    refine step_make 29 _ _ rfl w2.heap.size 40 i0_ _ 12 Try.underlying29 hi_ hz0 hz1 .i64 .i64 n rfl rfl (by rw [hz2]; omega) (by unfold maxLen; omega) hHeld.size ?_; intro gv wv hgv hov yv; rw [HMV.out] at hov; have HV := Go.Lib.hid hov; have zv := yv.size; have hvl := own_ltF hov gv rfl; have zh0 := hHeld.size; clear hov
    refine hKc.out _ _ (hHeld.trans (yv.mono hHeld.size)) (fun hHeld => ?_)
    clear hKc Kc
    try simp only [Act.put, List.setIfInBounds_toArray, List.set_cons_zero, List.set_cons_succ]
    refine wpAnyH_ready (rs := [3]) (by kernel_rfl) (by simp) (AllReadyH.cons (o := ⟨some 21, _, _, _, _, _⟩) rfl (fun Kc hKc => ?_) AllReadyH.nil)
    go_simp
    have zh1 := hHeld.size; go_at_call 28; refine (kWheel.new _).mono ?_; rintro e wn ⟨wd, FWn, rfl, rn, gn, yn⟩; have HWH := Go.Lib.hid rn; have HGN := Go.Lib.hid gn; have zn := yn.size; have HGV : Hid (¬ FWn gv) := Go.Lib.hid (fun q => by have := gn _ q; omega); have HV := Go.Lib.hid (own_keepA (w' := wn) HV.out (fun b e => yn.block b (own_ltF HV.out b e))); clear rn gn; dsimp only
    refine hKc.out _ _ (hHeld.trans (yn.mono hHeld.size)) (fun hHeld => ?_)
    clear hKc Kc
    try simp only [Act.put, List.setIfInBounds_toArray, List.set_cons_zero, List.set_cons_succ]
    refine wpAnyH_take (i := 4) (oi := ⟨some 22, _, _, _, _, _⟩) (v := ?_) rfl (by kernel_rfl) (by kernel_rfl) (by kernel_rfl) (fun _ _ _ h => h) (Or.inl ⟨by rfl, ?_⟩) (by assumption) ?_
    rotate_left
    · intro w hSw; (try dsimp only at hSw); go_simp; (try with_reducible rfl)
    try simp only [Act.put, List.setIfInBounds_toArray, List.set_cons_zero, List.set_cons_succ]
    refine wpAnyH_ready (rs := [5]) (by kernel_rfl) (by simp) (AllReadyH.cons (o := ⟨some 23, _, _, _, _, _⟩) rfl (fun Kc hKc => ?_) AllReadyH.nil)
    rw [if_pos (by rfl)]
    have zh2 := hHeld.size; have hvl2 := own_ltF HV.out gv rfl; refine step_box 75 _ rfl (fsL gv n A N c wd) rfl ?_; intro gb wb hgb hbb yb; have HBX := Go.Lib.hid hbb; have zb := yb.size; have HV := Go.Lib.hid (own_keepA (w' := wb) HV.out (fun b e => yb.block b (own_ltF HV.out b e))); have HGB : Hid (¬ FWn gb) := Go.Lib.hid (fun q => by have := kWheel.lt HWH.out _ q; omega); have HWH := Go.Lib.hid (kWheel.keep HWH.out (fun b hb => yb.block b (kWheel.lt HWH.out b hb)) yb.size); clear hbb
    refine hKc.out _ _ (hHeld.trans (yb.mono hHeld.size)) (fun hHeld => ?_)
    clear hKc Kc
    try simp only [Act.put, List.setIfInBounds_toArray, List.set_cons_zero, List.set_cons_succ]
    refine wpAnyH_take (i := 6) (oi := ⟨some 2, _, _, _, _, _⟩) (v := ?_) rfl (by kernel_rfl) (by kernel_rfl) (by kernel_rfl) (fun _ _ _ h => h) (Or.inl ⟨by rfl, ?_⟩) (by assumption) ?_
    rotate_left
    · intro w hSw; (try dsimp only at hSw); go_simp; (try with_reducible rfl)
    try simp only [Act.put, List.setIfInBounds_toArray, List.set_cons_zero, List.set_cons_succ]
    refine wpAnyH_take (i := 7) (oi := ⟨some 3, _, _, _, _, _⟩) (v := ?_) rfl (by kernel_rfl) (by kernel_rfl) (by kernel_rfl) (fun _ _ _ h => h) (Or.inl ⟨by rfl, ?_⟩) (by assumption) ?_
    rotate_left
    · intro w hSw; (try dsimp only at hSw); go_simp; (try with_reducible rfl)
    try simp only [Act.put, List.setIfInBounds_toArray, List.set_cons_zero, List.set_cons_succ]
    refine wpAnyH_done (by kernel_rfl) ?_ _
    have yq := hHeld
    clear hHeld
    go_wp2
    obtain ⟨cur, k1, k2, k3, _, _, _, k7⟩ := own_open HV.out
    have k4 : cur = (flowsF (List.replicate n none)).flatMap Fl.L := by rw [← k3, List.take_of_length_le (by omega)]
    subst k4
    have hFR : FR wb gb gv n N (List.replicate n none) (List.replicate N cl0) A c wd wh0 FWn := ⟨HBX.out, List.length_replicate, k1, HT2.out.at yq, List.length_replicate, by have := HN.out.2.1; omega, HWH.out, by omega, fun ad e => ⟨by have := HAL.out ad e; omega, by have := HAL.out ad e; omega, fun q => by have h1 := HGN.out _ q; have h2 := HAL.out ad e; have h3 : w2.heap.size ≤ ad.block := Nat.le_trans (by assumption) h1; omega⟩, HGB.out, HGV.out⟩
    refine bodyPost_ret (v := .tuple #[.pointer (some ⟨gb, 0, none⟩), .int .i64 0]) ?_ rfl ⟨⟨gb, 0, none⟩, FB gb gv A FWn, rfl, ⟨gb, gv, n, N, _, A, c, wd, wh0, FWn, rfl, ⟨hFR, HTN.out.2, HWS.out, HRS.out, (fun i f hf => (by have := HNONE.out i; dsimp only at this hf; rw [this] at hf; cases hf)), ⟨by have := HN.out.2.1; omega, HN.out.2.2⟩⟩, fun b => Iff.rfl⟩, fun b hb => ?_, y2.trans (yq.mono y2.size)⟩
    · simp [results, Try.results7, go_sem]
    · rcases hb with rfl | rfl | ⟨ad, e, rfl⟩ | hb
      · omega
      · omega
      · exact (HAL.out ad e).1
      · have h1 := HGN.out b hb
        exact Nat.le_trans hs2 (Nat.le_trans (by assumption) h1)
  ·
    go_simp
    have zh1 := hHeld.size; go_at_call 28; refine (kWheel.new _).mono ?_; rintro e wn ⟨wd, FWn, rfl, rn, gn, yn⟩; have HWH := Go.Lib.hid rn; have HGN := Go.Lib.hid gn; have zn := yn.size; clear rn gn; dsimp only
    refine hKc.out _ _ (hHeld.trans (yn.mono hHeld.size)) (fun hHeld => ?_)
    clear hKc Kc
    try simp only [Act.put, List.setIfInBounds_toArray, List.set_cons_zero, List.set_cons_succ]
    refine wpAnyH_ready (rs := [1]) (by kernel_rfl) (by simp) (AllReadyH.cons (o := ⟨some 19, _, _, _, _, _⟩) rfl (fun Kc hKc => ?_) AllReadyH.nil)
    rw [if_pos (by rfl)]
    refine step_make 29 _ _ rfl w2.heap.size 40 i0_ _ 12 Try.underlying29 hi_ hz0 hz1 .i64 .i64 n rfl rfl (by rw [hz2]; omega) (by unfold maxLen; omega) hHeld.size ?_; intro gv wv hgv hov yv; rw [HMV.out] at hov; have HV := Go.Lib.hid hov; have zv := yv.size; have hvl := own_ltF hov gv rfl; have zh0 := hHeld.size; have HGV : Hid (¬ FWn gv) := Go.Lib.hid (fun q => by have := kWheel.lt HWH.out _ q; omega); have HWH := Go.Lib.hid (kWheel.keep HWH.out (fun b hb => yv.block b (kWheel.lt HWH.out b hb)) yv.size); clear hov
    refine hKc.out _ _ (hHeld.trans (yv.mono hHeld.size)) (fun hHeld => ?_)
    clear hKc Kc
    try simp only [Act.put, List.setIfInBounds_toArray, List.set_cons_zero, List.set_cons_succ]
    refine wpAnyH_take (i := 4) (oi := ⟨some 22, _, _, _, _, _⟩) (v := ?_) rfl (by kernel_rfl) (by kernel_rfl) (by kernel_rfl) (fun _ _ _ h => h) (Or.inl ⟨by rfl, ?_⟩) (by assumption) ?_
    rotate_left
    · intro w hSw; (try dsimp only at hSw); go_simp; (try with_reducible rfl)
    try simp only [Act.put, List.setIfInBounds_toArray, List.set_cons_zero, List.set_cons_succ]
    refine wpAnyH_ready (rs := [5]) (by kernel_rfl) (by simp) (AllReadyH.cons (o := ⟨some 23, _, _, _, _, _⟩) rfl (fun Kc hKc => ?_) AllReadyH.nil)
    rw [if_pos (by rfl)]
    have zh2 := hHeld.size; have hvl2 := own_ltF HV.out gv rfl; refine step_box 75 _ rfl (fsL gv n A N c wd) rfl ?_; intro gb wb hgb hbb yb; have HBX := Go.Lib.hid hbb; have zb := yb.size; have HV := Go.Lib.hid (own_keepA (w' := wb) HV.out (fun b e => yb.block b (own_ltF HV.out b e))); have HGB : Hid (¬ FWn gb) := Go.Lib.hid (fun q => by have := kWheel.lt HWH.out _ q; omega); have HWH := Go.Lib.hid (kWheel.keep HWH.out (fun b hb => yb.block b (kWheel.lt HWH.out b hb)) yb.size); clear hbb
    refine hKc.out _ _ (hHeld.trans (yb.mono hHeld.size)) (fun hHeld => ?_)
    clear hKc Kc
    try simp only [Act.put, List.setIfInBounds_toArray, List.set_cons_zero, List.set_cons_succ]
    refine wpAnyH_take (i := 6) (oi := ⟨some 2, _, _, _, _, _⟩) (v := ?_) rfl (by kernel_rfl) (by kernel_rfl) (by kernel_rfl) (fun _ _ _ h => h) (Or.inl ⟨by rfl, ?_⟩) (by assumption) ?_
    rotate_left
    · intro w hSw; (try dsimp only at hSw); go_simp; (try with_reducible rfl)
    try simp only [Act.put, List.setIfInBounds_toArray, List.set_cons_zero, List.set_cons_succ]
    refine wpAnyH_take (i := 7) (oi := ⟨some 3, _, _, _, _, _⟩) (v := ?_) rfl (by kernel_rfl) (by kernel_rfl) (by kernel_rfl) (fun _ _ _ h => h) (Or.inl ⟨by rfl, ?_⟩) (by assumption) ?_
    rotate_left
    · intro w hSw; (try dsimp only at hSw); go_simp; (try with_reducible rfl)
    try simp only [Act.put, List.setIfInBounds_toArray, List.set_cons_zero, List.set_cons_succ]
    refine wpAnyH_done (by kernel_rfl) ?_ _
    have yq := hHeld
    clear hHeld
    go_wp2
    obtain ⟨cur, k1, k2, k3, _, _, _, k7⟩ := own_open HV.out
    have k4 : cur = (flowsF (List.replicate n none)).flatMap Fl.L := by rw [← k3, List.take_of_length_le (by omega)]
    subst k4
    have hFR : FR wb gb gv n N (List.replicate n none) (List.replicate N cl0) A c wd wh0 FWn := ⟨HBX.out, List.length_replicate, k1, HT2.out.at yq, List.length_replicate, by have := HN.out.2.1; omega, HWH.out, by omega, fun ad e => ⟨by have := HAL.out ad e; omega, by have := HAL.out ad e; omega, fun q => by have h1 := HGN.out _ q; have h2 := HAL.out ad e; have h3 : w2.heap.size ≤ ad.block := Nat.le_trans (by assumption) h1; omega⟩, HGB.out, HGV.out⟩
    refine bodyPost_ret (v := .tuple #[.pointer (some ⟨gb, 0, none⟩), .int .i64 0]) ?_ rfl ⟨⟨gb, 0, none⟩, FB gb gv A FWn, rfl, ⟨gb, gv, n, N, _, A, c, wd, wh0, FWn, rfl, ⟨hFR, HTN.out.2, HWS.out, HRS.out, (fun i f hf => (by have := HNONE.out i; dsimp only at this hf; rw [this] at hf; cases hf)), ⟨by have := HN.out.2.1; omega, HN.out.2.2⟩⟩, fun b => Iff.rfl⟩, fun b hb => ?_, y2.trans (yq.mono y2.size)⟩
    · simp [results, Try.results7, go_sem]
    · rcases hb with rfl | rfl | ⟨ad, e, rfl⟩ | hb
      · omega
      · omega
      · exact (HAL.out ad e).1
      · have h1 := HGN.out b hb
        exact Nat.le_trans hs2 (Nat.le_trans (by assumption) h1)
/-- all that a store owes. -/
def kStore : StoreC where
  Rep := SRep
  right := fun ⟨_, _, _, _, _, _, _, _, _, _, _, h, _⟩ => h.right
  rng := fun ⟨_, _, _, _, _, _, _, _, _, _, _, h, _⟩ => h.rng
  lt := fun ⟨_, _, _, _, _, _, _, _, _, _, _, h, hF⟩ b hb => h.mem.lt b ((hF b).1 hb)
  keep := fun ⟨g, sb, n, N, t, T, c, wd, x, FW, e, h, hF⟩ hk hs => ⟨g, sb, n, N, t, T, c, wd, x, FW, e, ⟨h.mem.keep (fun b hb => hk b ((hF b).2 hb)) hs, h.tabs, h.whs, h.right, h.rng, h.size⟩, hF⟩
  new0 := cnew0
  new1 := cnew1
  add := fun {w ad x F} ⟨g, sb, n, N, t, T, c, wd, x', FW, e, h, hF⟩ f q rf hq => by
    subst e
    refine (caddF h f rf q hq).mono ?_
    rintro e w' ⟨rfl, h'⟩
    obtain ⟨F', a, b, c⟩ := SRep.of hF h'
    exact ⟨F', rfl, a, b, c⟩
  find := fun {w ad x F} ⟨g, sb, n, N, t, T, c, wd, x', FW, e, h, hF⟩ k q rk hq => by
    subst e
    obtain ⟨m, o, hg, hc⟩ := h.tabs.findS h.right k
    rw [hq] at hc
    have hnb := h.right.room
    rcases hc with ⟨rfl, rfl, rfl⟩ | ⟨rfl, i, ⟨rfl, hi⟩ | ⟨rfl, hi⟩⟩
    · exact cfind12 h.mem h.size.2 k rk 0 false hg 0 0 false rfl rfl rfl (by unfold I64; omega)
    · have hil := h.find_lt hq hi
      subst hi
      exact cfind12 h.mem h.size.2 k rk _ true hg (i : Int) 0 false (by rw [Int.tdiv_eq_ediv_of_nonneg (by omega)]; omega) (by rw [Int.tmod_eq_emod_of_nonneg (by omega)]; omega) rfl (by unfold I64; omega)
    · have hil := h.find_lt hq hi
      subst hi
      exact cfind12 h.mem h.size.2 k rk _ true hg (i : Int) 1 true (by rw [Int.tdiv_eq_ediv_of_nonneg (by omega)]; omega) (by rw [Int.tmod_eq_emod_of_nonneg (by omega)]; omega) rfl (by unfold I64; omega)
  get := fun {w ad x F} ⟨g, sb, n, N, t, T, c, wd, x', FW, e, h, hF⟩ num o hn ho => by
    subst e
    refine cgetF h.mem num hn o (by rw [← ho]; exact h.whs.when num) (fun f e => ?_)
    subst e
    exact there_iff ho
  set := fun {w ad x F} ⟨g, sb, n, N, t, T, c, wd, x', FW, e, h, hF⟩ num u no q hn hq => by
    subst e
    refine (csetF h num u no hn q hq).mono ?_
    rintro e w' ⟨rfl, h'⟩
    obtain ⟨F', a, b, c⟩ := SRep.of hF h'
    exact ⟨F', rfl, a, b, c⟩
  drop := fun {w ad x F} ⟨g, sb, n, N, t, T, c, wd, x', FW, e, h, hF⟩ num q hn hq => by
    subst e
    refine (cdropF h num hn q hq).mono ?_
    rintro e w' ⟨rfl, h'⟩
    obtain ⟨F', a, b, c⟩ := SRep.of hF h'
    exact ⟨F', rfl, a, b, c⟩
  tick := fun {w ad x F} ⟨g, sb, n, N, t, T, c, wd, x', FW, e, h, hF⟩ now q hq => by
    subst e
    refine (ctickF h now q hq).mono ?_
    rintro e w' ⟨A, d, t', T', c', x'', FW', rfl, h', hn, hm, hd⟩
    exact ⟨FB g sb T' FW', A, d, rfl, hd, ⟨g, sb, n, N, t', T', c', wd, x'', FW', rfl, h', fun b => Iff.rfl⟩, fun b hb => (hn b hb).imp (fun q => (hF b).2 q) id, hm.mono (fun b q => (hF b).2 q)⟩
  all_ := fun {w ad x F} ⟨g, sb, n, N, t, T, c, wd, x', FW, e, h, hF⟩ l hl => by
    subst e
    exact callF h l hl
  len_ := fun {w ad x F} ⟨g, sb, n, N, t, T, c, wd, x', FW, e, h, hF⟩ m hm => by
    subst e
    exact clen12 h.mem m (by rw [h.whs.len]; exact hm)
set_option maxRecDepth 100000 in
set_option maxHeartbeats 8000000 in
theorem kSNil : StoreN where
  add := fun f w => by
    have y0 : Below w.heap.size w (w.alloc (oFl f)) := (Below.refl _ _).alloc (Nat.le_refl _) _
    go_enter Try.func9, Try.ntmps9
    go_wp2
    go_ret2
    exact ⟨rfl, y0⟩
  find := fun t w => by
    have y0 : Below w.heap.size w (w.alloc (oTp t)) := (Below.refl _ _).alloc (Nat.le_refl _) _
    go_enter Try.func10, Try.ntmps10
    go_wp2
    refine bodyPost_ret (v := .tuple #[.int .i64 0, .bool false, .bool false]) ?_ rfl ⟨rfl, y0⟩
    simp [results, Try.results10, go_sem]
  get := fun n w => by
    have y0 : Below w.heap.size w (w.alloc (oFl fl0)) := (Below.refl _ _).alloc (Nat.le_refl _) _
    have hbx := Bxo.made w 40 (flL fl0)
    go_enter Try.func11, Try.ntmps11
    go_upto_region 1 with fail
    generalize w.alloc (oFl fl0) = W at *
    have HX := Go.Lib.hid hbx
    clear hbx
    go_wp2_with (refine wpList_store_any rfl 40 _ _ rfl w.heap.size 0 40 _ (flL fl0) _ rfl rfl rfl HX.out info_fl (by show 0 + 12 ≤ 12; omega) (by simp [Value.oneCell']) ?_; intro w2 hb2 ho2; have HX2 : Hid (Bxo w2 w.heap.size 40 (flL fl0)) := Go.Lib.hid hb2; have HO2 := Go.Lib.hid ho2; clear hb2 ho2)
    exact bodyPost_ret (v := .tuple #[flV fl0, .bool false]) (results_ct12 (p := 4) (u := 5) rfl _ _ w.heap.size (flL fl0) _ rfl HX2.out Try.underlying40 rfl info_fl) rfl ⟨rfl, y0.trans (HO2.out.below (Nat.le_refl _))⟩
  set := fun n u no w => by
    go_enter Try.func14, Try.ntmps14
    go_wp2
    go_ret
    exact ⟨rfl, Below.refl _ _⟩
  drop := fun n w => by
    have y0 : Below w.heap.size w (w.alloc (oFl fl0)) := (Below.refl _ _).alloc (Nat.le_refl _) _
    have hbx := Bxo.made w 40 (flL fl0)
    go_enter Try.func12, Try.ntmps12
    go_upto_region 1 with fail
    generalize w.alloc (oFl fl0) = W at *
    have HX := Go.Lib.hid hbx
    clear hbx
    go_wp2_with (refine wpList_store_any rfl 40 _ _ rfl w.heap.size 0 40 _ (flL fl0) _ rfl rfl rfl HX.out info_fl (by show 0 + 12 ≤ 12; omega) (by simp [Value.oneCell']) ?_; intro w2 hb2 ho2; have HX2 : Hid (Bxo w2 w.heap.size 40 (flL fl0)) := Go.Lib.hid hb2; have HO2 := Go.Lib.hid ho2; clear hb2 ho2)
    exact bodyPost_ret (v := .tuple #[flV fl0, .int .i64 1]) (results_ct12 (p := 4) (u := 5) rfl _ _ w.heap.size (flL fl0) _ rfl HX2.out Try.underlying40 rfl info_fl) rfl ⟨rfl, y0.trans (HO2.out.below (Nat.le_refl _))⟩
  tick := fun n w => by
    go_enter Try.func13, Try.ntmps13
    go_wp2
    go_ret2
    exact ⟨none, 0, rfl, Below.refl _ _⟩
  all_ := fun w => by
    go_enter Try.func15, Try.ntmps15
    go_wp2
    go_ret
    exact ⟨none, 0, rfl, Below.refl _ _⟩
  len_ := fun w => by
    go_enter Try.func16, Try.ntmps16
    go_wp2
    go_ret
    exact ⟨rfl, Below.refl _ _⟩
end Go.Proofs.Ytofpalmghdapkaa
