/- The contract of the document's own About, where the lengths fit. -/
import Derived.Deep.DeepCutAuto
import Derived.Deep.CutBlock
import Derived.Deep.RegionHeld3
import Derived.Test.YtndhiopfkgdhcaaIcmpR3
namespace Go.Proofs.Ytndhiopfkgdhcaa
open Go.ChangeShapes Go.WideShapes Go.ChangeAt Go.RowKit
set_option linter.unusedVariables false
set_option linter.unusedSimpArgs false

theorem Row.setI {w : World} {base : Nat} {v : Value} {l : List UInt8} (h : Row w base v l) {p : Addr} (hp : p.block < base) (u : Value) : Row (w.setCell p u) base v l := by
  refine ⟨h.is.1, ?_⟩
  rcases h.is.2 with h | ⟨g', cap, cur, hv, hba, hh, rest⟩
  · exact .inl h
  · refine .inr ⟨g', cap, cur, hv, hba, ?_, rest⟩
    rw [Below.heap_setCell w p u g' (by rintro rfl; omega)]
    exact hh
theorem tb_step (l TB : List UInt8) (Q k t : Nat) (h : (l.take Q).drop k = TB) (kt : k ≤ t) (tQ : t < Q) (Ql : Q ≤ l.length) : TB.take (t - k) ++ [b8 (g8 l t)] = TB.take (t + 1 - k) := by
  subst h
  have e : t + 1 - k = (t - k) + 1 := by omega
  rw [e, List.take_succ_eq_append_getElem (by rw [List.length_drop, List.length_take]; omega), List.getElem_drop, List.getElem_take, b8_g8 l t (by omega)]
  simp only [show k + (t - k) = t from by omega]
/-- behind as many rounds: the packet's body so far. -/
structure LpI (m : Ic) (ad : Addr) (cb : Nat) (w : World) (g base k t : Nat) (Ao : Option Addr) (no co : Nat) (opts TB : List UInt8) (wr : World) (A : Option Addr) (c : Nat) : Prop where
  al : Al m (some ad) cb w wr
  cc : C11 wr g (.int .i64 (g8 m.body 1)) (.int .i64 (wd m.body 4)) (.bool (decide (wd m.body 6 / 16384 % 2 = 1))) (.bool (decide (wd m.body 6 / 8192 % 2 = 1))) (.int .i64 (wd m.body 6 % 8192 * 8)) (.int .i64 (g8 m.body 8)) (.int .i64 (g8 m.body 9)) (.int .u32 (wd m.body 12 * 65536 + wd m.body 14)) (.int .u32 (wd m.body 16 * 65536 + wd m.body 18)) (.slice Ao no co) (.slice A (t - k) c)
  fz : ∀ o, wr.frozen? ⟨g, o, none⟩ = false
  row : Row wr base (.slice A (t - k) c) (TB.take (t - k))
  obs : Bs wr base Ao opts
  bz : base ≤ wr.heap.size
theorem rsumV (A : Option Addr) (n c : Nat) (l : List UInt8) (B : Nat) (w : World) (k : Int) (hk : fo (tot l) = k) (hn : l.length = n) (h : Bs w B A l) (hB : B ≤ w.heap.size) (hl : n ≤ 16777216) (hlc : n ≤ c) :
    Calls Try.prog 29 #[.slice A n c] w fun e w' => e = .returned (.int .u16 k) ∧ Below w.heap.size w w' := hk ▸ rsum_n A n c l B w hn h hB hl hlc
/-- behind the head's plain parts: the packet lies at slot 9. -/
def MidA (m : Ic) (w3 : World) (s : Value) (Y : World) : Prop := ∃ g : Nat, s = .pointer (some ⟨g, 0, none⟩) ∧ w3.heap.size ≤ g ∧ g < Y.heap.size ∧ Below w3.heap.size w3 Y ∧ (∀ o, Y.frozen? ⟨g, o, none⟩ = false) ∧
  C11 Y g (.int .i64 (g8 m.body 1)) (.int .i64 (wd m.body 4)) (.bool (decide (wd m.body 6 / 16384 % 2 = 1))) (.bool (decide (wd m.body 6 / 8192 % 2 = 1))) (.int .i64 (wd m.body 6 % 8192 * 8)) (.int .i64 (g8 m.body 8)) (.int .i64 (g8 m.body 9)) (.int .u32 (wd m.body 12 * 65536 + wd m.body 14)) (.int .u32 (wd m.body 16 * 65536 + wd m.body 18)) (.slice none 0 0) (.slice none 0 0)

set_option maxRecDepth 100000 in
set_option maxHeartbeats 16000000 in
theorem raboutB (m : Ic) (Ab : Option Addr) (cb : Nat) (w : World) (hI : IcIn w w.heap.size m Ab cb) (hl : m.body.length ≤ 16777216) (hz : errK m.type = true) (hM : imE m.body = 0) :
    Calls Try.prog 22 #[icV m Ab cb] w (AboutPost w (aboutI m)) := by
  obtain ⟨i0_, hi, hz0, hz1, hz2⟩ := info_parts info_byte
  have HI := Go.Lib.hid hI
  have blen := hI.blen
  have bcap := hI.bcap
  have a0 : Al m Ab cb w (Za m Ab cb w) := Al.start
  have HZK := Go.Lib.hid hz
  obtain ⟨m1, m2, m3, m4, m5⟩ := imE_ok hM
  obtain ⟨k, hk⟩ : ∃ k : Nat, (k : Int) = headN m.body := ⟨(headN m.body).toNat, by omega⟩
  obtain ⟨q, hq⟩ : ∃ q : Nat, (q : Int) = wd m.body 2 := ⟨(wd m.body 2).toNat, by omega⟩
  have HP := Go.Lib.hid (about_ok hz hM hk hq)
  have HH : Hid (g8 m.body 0 % 16 * 4 = (k : Int)) := Go.Lib.hid (by rw [hk]; rfl)
  have hh : g8 m.body 0 % 16 * 4 = (k : Int) := HH.out
  have HQ := Go.Lib.hid hq
  have HL20 : Hid ((m.body.take 20).length = 20) := Go.Lib.hid (by rw [List.length_take]; omega)
  have HLen : Hid (20 ≤ m.body.length) := Go.Lib.hid m1
  have HTL : Hid ((m.body.take k).length = k) := Go.Lib.hid (by rw [List.length_take]; omega)
  obtain ⟨ad, rfl, hlt, hcell⟩ := g8_cells HI.out.bs (by omega)
  have hc0 : (Za m (some ad) cb w).cell? ad = some (.int .u8 (g8 m.body 0)) := by
    have := hcell 0 (by omega)
    rw [add_zero] at this
    exact (a0.below.cell hlt).trans this
  have hC1 : Hid (w.cell? ⟨ad.block, ad.off + 1, none⟩ = some (.int .u8 (g8 m.body 1))) := Go.Lib.hid (by have := hcell 1 (by omega); rwa [add_pos ad 1 (by omega)] at this)
  have hC8 : Hid (w.cell? ⟨ad.block, ad.off + 8, none⟩ = some (.int .u8 (g8 m.body 8))) := Go.Lib.hid (by have := hcell 8 (by omega); rwa [add_pos ad 8 (by omega)] at this)
  have hC9 : Hid (w.cell? ⟨ad.block, ad.off + 9, none⟩ = some (.int .u8 (g8 m.body 9))) := Go.Lib.hid (by have := hcell 9 (by omega); rwa [add_pos ad 9 (by omega)] at this)
  have b0 := g8_lo m.body 0
  have b1 := g8_hi m.body 0
  have i0 : 0 < m.body.length := by omega
  have h20' : ¬ (m.body.length : Int) < 20 := by omega
  have k20 : 20 ≤ k := by omega
  have kn : k ≤ m.body.length := by omega
  have kq : k ≤ q := by omega
  have q65 : q ≤ 65535 := by have := wd_hi m.body 2; omega
  have t1 : (g8 m.body 0 / 16 != 4) = false := by simpa using m5
  have i20 : (20 : Int) ≤ (cb : Int) := by omega
  have l1 : ¬ (q : Int) < (k : Int) := by omega
  have l2 : ¬ (k : Int) < 20 := by omega
  have l3 : ¬ (m.body.length : Int) < (k : Int) := by omega
  have l4 : (k : Int) ≤ (cb : Int) := by omega
  obtain ⟨c0, c1, c2, c3⟩ := a0.is.cells
  clear hI hz hM m1 m2 m3 m4 m5 hk hq hcell
  go_enter Try.func22, Try.ntmps22
  go_upto_region 1 with fail
  rw [za_is]
  generalize Za m (some ad) cb w = W at *
  go_wp2_with fail
  refine (rerrI m.type _ true HZK.out).mono ?_
  rintro e w1 ⟨rfl, rfl⟩
  dsimp only
  go_wp2_with fail
  refine (rwords_n (some ad) 20 cb (m.body.take 20) w.heap.size _ HL20.out ((HI.out.bs.below a0.below).take 20) a0.below.size (by omega) (by omega)).mono ?_
  rintro e w2 ⟨v, rfl, hown, hb2⟩
  dsimp only
  obtain ⟨gw, cw, rfl, hgw1, hgw2, hw⟩ := words20 HLen.out hown
  have a2 := a0.call hb2
  have hw1 : w2.cell? ⟨gw, 1, none⟩ = some (.int .u16 (q : Int)) := by rw [HQ.out]; exact hw 1 (by omega)
  have HW := Go.Lib.hid hw
  clear hw hown hb2 a0 hc0 c0 c1 c2 c3
  obtain ⟨c0, c1, c2, c3⟩ := a2.is.cells
  obtain ⟨s, hs⟩ : ∃ s : Int, fo (tot (m.body.take k)) = s := ⟨_, rfl⟩
  rw [hs] at HP
  have eq64 := IntWalk.i64_in (q : Int) (by omega)
  go_wp2_with fail
  refine (rsumV (some ad) k cb (m.body.take k) w.heap.size _ s hs HTL.out ((HI.out.bs.below a2.below).take k) a2.below.size (by omega) (by omega)).mono ?_
  rintro e w3 ⟨rfl, hb3⟩
  dsimp only
  have a3 := a2.call hb3
  have HW3 : Hid (∀ j, j < 10 → w3.cell? ⟨gw, j, none⟩ = some (.int .u16 (wd m.body (2 * j)))) := Go.Lib.hid fun j hj => cells_keep hb3 hgw2 (HW.out j hj)
  have hgw3 : gw < w3.heap.size := Nat.lt_of_lt_of_le hgw2 hb3.size
  clear hb3 HW hw1 a2 hgw2 c0 c1 c2 c3 hs
  obtain ⟨c0, c1, c2, c3⟩ := a3.is.cells
  obtain ⟨z0, z1, z2, z3, z4, z5, z6, z7, z8, z9, z10⟩ := a3.z
  have zf := a3.fz
  by_cases h5 : s = 65535
  · have t5 : (s != 65535) = false := by simpa using h5
    have e8 := IntWalk.i64_in ((m.body.length : Int) - (k : Int)) (by omega)
    by_cases h6 : (m.body.length : Int) - (k : Int) < 8 ∧ (m.body.length : Int) < (q : Int)
    · have HP2 : Hid (aboutI m = (2, Pk.empty)) := Go.Lib.hid (by rw [HP.out, if_neg (by simpa using h5), if_pos h6])
      obtain ⟨h6, h7⟩ := h6
      clear h5
      go_wp2
      refine bodyPost_ret (v := .tuple #[.agg #[.int .i64 0, .int .i64 0, .bool false, .bool false, .int .i64 0, .int .i64 0, .int .i64 0, .int .u32 0, .int .u32 0, .slice none 0 0, .slice none 0 0], .int .i64 2]) ?_ rfl (about_err HP2.out rfl ?_)
      · simp [results, Try.results22, go_sem, z0, z1, z2, z3, z4, z5, z6, z7, z8, z9, z10]
      · exact below_far11 a3.below (Nat.le_succ _) _ _ _ _ _ _ _ _ _ _ _
    · have HP0 : Hid (aboutI m = (0, rdP (m.body.take k) ((m.body.take q).drop k))) := Go.Lib.hid (by rw [HP.out, if_neg (by simpa using h5), if_neg h6])
      have hQ : ∃ Q : Nat, ((q ≤ m.body.length ∧ Q = q) ∨ (m.body.length < q ∧ Q = m.body.length)) := by
        by_cases h : q ≤ m.body.length
        · exact ⟨q, .inl ⟨h, rfl⟩⟩
        · exact ⟨_, .inr ⟨by omega, rfl⟩⟩
      obtain ⟨Q, hQ⟩ := hQ
      have HQT : Hid (m.body.take q = m.body.take Q) := Go.Lib.hid (by
        rcases hQ with ⟨_, rfl⟩ | ⟨h, rfl⟩
        · rfl
        · rw [List.take_of_length_le (by omega), List.take_of_length_le (by omega)])
      have Qn : Q ≤ m.body.length := by omega
      have Qq : Q ≤ q := by omega
      have kQ : k ≤ Q := by omega
      have HQE : Hid (Q = m.body.length ∨ Q = q) := Go.Lib.hid (by show _ ∨ _; omega)
      obtain ⟨TB, hTB⟩ : ∃ TB, (m.body.take Q).drop k = TB := ⟨_, rfl⟩
      have HTB := Go.Lib.hid hTB
      have HDL : Hid (TB.length = Q - k) := Go.Lib.hid (by rw [← hTB, List.length_drop, List.length_take]; omega)
      have HPF : Hid (aboutI m = (0, rdP (m.body.take k) TB)) := Go.Lib.hid (by rw [HP0.out, HQT.out, hTB])
      have h67 : ((m.body.length : Int) - (k : Int) < 8 ∧ ¬ (m.body.length : Int) < (q : Int)) ∨ ¬ (m.body.length : Int) - (k : Int) < 8 := by omega
      clear h5 h6 hQ hTB HP HP0 HQT
      have hw3 : w3.cell? ⟨gw, 3, none⟩ = some (.int .u16 (wd m.body 6)) := HW3.out 3 (by omega)
      have b6 := wd_lo m.body 6
      have b7 := wd_hi m.body 6
      have e6 := IntWalk.i64_in (wd m.body 6) (by omega)
      go_upto_region 15 with fail
      go_cut [71] (fun s wx => s = .bool false ∧ wx = w3)
      case first =>
        rcases h67 with ⟨g1, g2⟩ | g1
        all_goals
          go_wp2
          go_meet
          exact ⟨rfl, rfl⟩
      case rest =>
      obtain ⟨rfl, hwc⟩ := hcut
      replace hwc := hwc.symm
      subst hwc
      clear h67 e8
      have K : ∀ Y, Below w3.heap.size w3 Y → Y.cell? ⟨ad.block, ad.off + 1, none⟩ = some (.int .u8 (g8 m.body 1)) ∧ Y.cell? ⟨ad.block, ad.off + 8, none⟩ = some (.int .u8 (g8 m.body 8)) ∧ Y.cell? ⟨ad.block, ad.off + 9, none⟩ = some (.int .u8 (g8 m.body 9)) ∧ Y.cell? ⟨gw, 2, none⟩ = some (.int .u16 (wd m.body 4)) ∧ Y.cell? ⟨gw, 6, none⟩ = some (.int .u16 (wd m.body 12)) ∧ Y.cell? ⟨gw, 7, none⟩ = some (.int .u16 (wd m.body 14)) ∧ Y.cell? ⟨gw, 8, none⟩ = some (.int .u16 (wd m.body 16)) ∧ Y.cell? ⟨gw, 9, none⟩ = some (.int .u16 (wd m.body 18)) ∧ Below w3.heap.size w3 Y := fun Y y => by
        have yw := a3.below.trans (y.mono a3.below.size)
        exact ⟨(yw.cell (p := ⟨ad.block, ad.off + 1, none⟩) hlt).trans hC1.out, (yw.cell (p := ⟨ad.block, ad.off + 8, none⟩) hlt).trans hC8.out, (yw.cell (p := ⟨ad.block, ad.off + 9, none⟩) hlt).trans hC9.out, (y.cell (p := ⟨gw, 2, none⟩) hgw3).trans (HW3.out 2 (by omega)), (y.cell (p := ⟨gw, 6, none⟩) hgw3).trans (HW3.out 6 (by omega)), (y.cell (p := ⟨gw, 7, none⟩) hgw3).trans (HW3.out 7 (by omega)), (y.cell (p := ⟨gw, 8, none⟩) hgw3).trans (HW3.out 8 (by omega)), (y.cell (p := ⟨gw, 9, none⟩) hgw3).trans (HW3.out 9 (by omega)), y⟩
      go_upto_region 18 with fail
      have r1 := IntWalk.i64_in (g8 m.body 1) (by have := g8_lo m.body 1; have := g8_hi m.body 1; omega)
      have r8 := IntWalk.i64_in (g8 m.body 8) (by have := g8_lo m.body 8; have := g8_hi m.body 8; omega)
      have r9 := IntWalk.i64_in (g8 m.body 9) (by have := g8_lo m.body 9; have := g8_hi m.body 9; omega)
      have r4 := IntWalk.i64_in (wd m.body 4) (by have := wd_lo m.body 4; have := wd_hi m.body 4; omega)
      have r6 := IntWalk.i64_in (wd m.body 6 % 8192 * 8) (by omega)
      have D1 : IntKind.i64.wrap ((wd m.body 6).tdiv 16384) = wd m.body 6 / 16384 := IntWalk.i64_quo _ _ ⟨b6, by omega, by omega⟩
      have D2 : IntKind.i64.wrap ((wd m.body 6).tdiv 8192) = wd m.body 6 / 8192 := IntWalk.i64_quo _ _ ⟨b6, by omega, by omega⟩
      have D3 : (wd m.body 6 / 16384).tmod 2 = wd m.body 6 / 16384 % 2 := IntWalk.rem_in _ _ (by omega)
      have D4 : (wd m.body 6 / 8192).tmod 2 = wd m.body 6 / 8192 % 2 := IntWalk.rem_in _ _ (by omega)
      have D5 : (wd m.body 6).tmod 8192 = wd m.body 6 % 8192 := IntWalk.rem_in _ _ b6
      have i1 : (1 : Int) < (m.body.length : Int) := by omega
      have i8 : (8 : Int) < (m.body.length : Int) := by omega
      have i9 : (9 : Int) < (m.body.length : Int) := by omega
      have B12 : 0 ≤ wd m.body 12 ∧ wd m.body 12 ≤ 65535 := ⟨wd_lo m.body 12, wd_hi m.body 12⟩
      have B14 : 0 ≤ wd m.body 14 ∧ wd m.body 14 ≤ 65535 := ⟨wd_lo m.body 14, wd_hi m.body 14⟩
      have B16 : 0 ≤ wd m.body 16 ∧ wd m.body 16 ≤ 65535 := ⟨wd_lo m.body 16, wd_hi m.body 16⟩
      have B18 : 0 ≤ wd m.body 18 ∧ wd m.body 18 ≤ 65535 := ⟨wd_lo m.body 18, wd_hi m.body 18⟩
      have E1 := IntWalk.u32_in (wd m.body 12) (by omega)
      have E2 := IntWalk.u32_in (wd m.body 14) (by omega)
      have E3 := IntWalk.u32_in (wd m.body 12 * 65536) (by omega)
      have E4 := IntWalk.u32_in (wd m.body 12 * 65536 + wd m.body 14) (by omega)
      have E5 := IntWalk.u32_in (wd m.body 16) (by omega)
      have E6 := IntWalk.u32_in (wd m.body 18) (by omega)
      have E7 := IntWalk.u32_in (wd m.body 16 * 65536) (by omega)
      have E8 := IntWalk.u32_in (wd m.body 16 * 65536 + wd m.body 18) (by omega)
      go_cut [9] (fun s wx => MidA m w3 s wx)
      case first =>
        refine wp_region_held_drew (S := (fun Y => Y.cell? ⟨ad.block, ad.off + 1, none⟩ = some (.int .u8 (g8 m.body 1)) ∧ Y.cell? ⟨ad.block, ad.off + 8, none⟩ = some (.int .u8 (g8 m.body 8)) ∧ Y.cell? ⟨ad.block, ad.off + 9, none⟩ = some (.int .u8 (g8 m.body 9)) ∧ Y.cell? ⟨gw, 2, none⟩ = some (.int .u16 (wd m.body 4)) ∧ Y.cell? ⟨gw, 6, none⟩ = some (.int .u16 (wd m.body 12)) ∧ Y.cell? ⟨gw, 7, none⟩ = some (.int .u16 (wd m.body 14)) ∧ Y.cell? ⟨gw, 8, none⟩ = some (.int .u16 (wd m.body 16)) ∧ Y.cell? ⟨gw, 9, none⟩ = some (.int .u16 (wd m.body 18)) ∧ Below w3.heap.size w3 Y)) (by kernel_rfl) ?_ (fun hHeld => ?_)
        · exact K _ (below_drew (Below.refl _ _))
        refine wpAnyH_take (i := 0) (oi := ⟨some 77, _, _, _, _, _⟩) (v := ?_) rfl (by kernel_rfl) (by kernel_rfl) (by kernel_rfl) (fun _ _ _ h => h) (Or.inl ⟨by rfl, ?_⟩) (by assumption) ?_
        rotate_left
        · intro w hSw; (try dsimp only at hSw); go_simp; (try with_reducible rfl)
        try simp only [Act.put, List.setIfInBounds_toArray, List.set_cons_zero, List.set_cons_succ]
        refine wpAnyH_take (i := 1) (oi := ⟨some 78, _, _, _, _, _⟩) (v := ?_) rfl (by kernel_rfl) (by kernel_rfl) (by kernel_rfl) (fun _ _ _ h => h) (Or.inl ⟨by rfl, ?_⟩) (by assumption) ?_
        rotate_left
        · intro w hSw; (try dsimp only at hSw); go_simp; (try with_reducible rfl)
        try simp only [Act.put, List.setIfInBounds_toArray, List.set_cons_zero, List.set_cons_succ]
        refine wpAnyH_take (i := 2) (oi := ⟨some 79, _, _, _, _, _⟩) (v := ?_) rfl (by kernel_rfl) (by kernel_rfl) (by kernel_rfl) (fun _ _ _ h => h) (Or.inl ⟨by rfl, ?_⟩) (by assumption) ?_
        rotate_left
        · intro w hSw; (try dsimp only at hSw); go_simp; (try with_reducible rfl)
        try simp only [Act.put, List.setIfInBounds_toArray, List.set_cons_zero, List.set_cons_succ]
        refine wpAnyH_take (i := 3) (oi := ⟨some 80, _, _, _, _, _⟩) (v := ?_) rfl (by kernel_rfl) (by kernel_rfl) (by kernel_rfl) (fun _ _ _ h => h) (Or.inl ⟨by rfl, ?_⟩) (by assumption) ?_
        rotate_left
        · intro w hSw; (try dsimp only at hSw); go_simp; (try with_reducible rfl)
        try simp only [Act.put, List.setIfInBounds_toArray, List.set_cons_zero, List.set_cons_succ]
        refine wpAnyH_take (i := 4) (oi := ⟨some 81, _, _, _, _, _⟩) (v := ?_) rfl (by kernel_rfl) (by kernel_rfl) (by kernel_rfl) (fun _ _ _ h => h) (Or.inl ⟨by rfl, ?_⟩) (by assumption) ?_
        rotate_left
        · intro w hSw; (try dsimp only at hSw); go_simp; (try with_reducible rfl)
        try simp only [Act.put, List.setIfInBounds_toArray, List.set_cons_zero, List.set_cons_succ]
        refine wpAnyH_take (i := 5) (oi := ⟨some 82, _, _, _, _, _⟩) (v := ?_) rfl (by kernel_rfl) (by kernel_rfl) (by kernel_rfl) (fun _ _ _ h => h) (Or.inl ⟨by rfl, ?_⟩) (by assumption) ?_
        rotate_left
        · intro w hSw; (try dsimp only at hSw); go_simp; (try with_reducible rfl)
        try simp only [Act.put, List.setIfInBounds_toArray, List.set_cons_zero, List.set_cons_succ]
        refine wpAnyH_take (i := 6) (oi := ⟨some 83, _, _, _, _, _⟩) (v := ?_) rfl (by kernel_rfl) (by kernel_rfl) (by kernel_rfl) (fun _ _ _ h => h) (Or.inl ⟨by rfl, ?_⟩) (by assumption) ?_
        rotate_left
        · intro w hSw; (try dsimp only at hSw); go_simp; (try with_reducible rfl)
        try simp only [Act.put, List.setIfInBounds_toArray, List.set_cons_zero, List.set_cons_succ]
        refine wpAnyH_take (i := 7) (oi := ⟨some 84, _, _, _, _, _⟩) (v := ?_) rfl (by kernel_rfl) (by kernel_rfl) (by kernel_rfl) (fun _ _ _ h => h) (Or.inl ⟨by rfl, ?_⟩) (by assumption) ?_
        rotate_left
        · intro w hSw; (try dsimp only at hSw); go_simp; (try with_reducible rfl)
        try simp only [Act.put, List.setIfInBounds_toArray, List.set_cons_zero, List.set_cons_succ]
        refine wpAnyH_take (i := 8) (oi := ⟨some 85, _, _, _, _, _⟩) (v := ?_) rfl (by kernel_rfl) (by kernel_rfl) (by kernel_rfl) (fun _ _ _ h => h) (Or.inl ⟨by rfl, ?_⟩) (by assumption) ?_
        rotate_left
        · intro w hSw; (try dsimp only at hSw); go_simp; (try with_reducible rfl)
        try simp only [Act.put, List.setIfInBounds_toArray, List.set_cons_zero, List.set_cons_succ]
        refine wpAnyH_take (i := 9) (oi := ⟨some 86, _, _, _, _, _⟩) (v := ?_) rfl (by kernel_rfl) (by kernel_rfl) (by kernel_rfl) (fun _ _ _ h => h) (Or.inl ⟨by rfl, ?_⟩) (by assumption) ?_
        rotate_left
        · intro w hSw; (try dsimp only at hSw); go_simp; (try with_reducible rfl)
        try simp only [Act.put, List.setIfInBounds_toArray, List.set_cons_zero, List.set_cons_succ]
        refine wpAnyH_take (i := 10) (oi := ⟨some 87, _, _, _, _, _⟩) (v := ?_) rfl (by kernel_rfl) (by kernel_rfl) (by kernel_rfl) (fun _ _ _ h => h) (Or.inl ⟨by rfl, ?_⟩) (by assumption) ?_
        rotate_left
        · intro w hSw; (try dsimp only at hSw); go_simp; (try with_reducible rfl)
        try simp only [Act.put, List.setIfInBounds_toArray, List.set_cons_zero, List.set_cons_succ]
        refine wpAnyH_take (i := 11) (oi := ⟨some 88, _, _, _, _, _⟩) (v := ?_) rfl (by kernel_rfl) (by kernel_rfl) (by kernel_rfl) (fun _ _ _ h => h) (Or.inl ⟨by rfl, ?_⟩) (by assumption) ?_
        rotate_left
        · intro w hSw; (try dsimp only at hSw); go_simp; (try with_reducible rfl)
        try simp only [Act.put, List.setIfInBounds_toArray, List.set_cons_zero, List.set_cons_succ]
        refine wpAnyH_take (i := 12) (oi := ⟨some 89, _, _, _, _, _⟩) (v := ?_) rfl (by kernel_rfl) (by kernel_rfl) (by kernel_rfl) (fun _ _ _ h => h) (Or.inl ⟨by rfl, ?_⟩) (by assumption) ?_
        rotate_left
        · intro w hSw; (try dsimp only at hSw); go_simp; (try with_reducible rfl)
        try simp only [Act.put, List.setIfInBounds_toArray, List.set_cons_zero, List.set_cons_succ]
        refine wpAnyH_take (i := 13) (oi := ⟨some 90, _, _, _, _, _⟩) (v := ?_) rfl (by kernel_rfl) (by kernel_rfl) (by kernel_rfl) (fun _ _ _ h => h) (Or.inl ⟨by rfl, ?_⟩) (by assumption) ?_
        rotate_left
        · intro w hSw; (try dsimp only at hSw); go_simp; (try with_reducible rfl)
        try simp only [Act.put, List.setIfInBounds_toArray, List.set_cons_zero, List.set_cons_succ]
        refine wpAnyH_take (i := 14) (oi := ⟨some 91, _, _, _, _, _⟩) (v := ?_) rfl (by kernel_rfl) (by kernel_rfl) (by kernel_rfl) (fun _ _ _ h => h) (Or.inl ⟨by rfl, ?_⟩) (by assumption) ?_
        rotate_left
        · intro w hSw; (try dsimp only at hSw); go_simp; (try with_reducible rfl)
        try simp only [Act.put, List.setIfInBounds_toArray, List.set_cons_zero, List.set_cons_succ]
        refine wpAnyH_take (i := 15) (oi := ⟨some 92, _, _, _, _, _⟩) (v := ?_) rfl (by kernel_rfl) (by kernel_rfl) (by kernel_rfl) (fun _ _ _ h => h) (Or.inl ⟨by rfl, ?_⟩) (by assumption) ?_
        rotate_left
        · intro w hSw; (try dsimp only at hSw); go_simp; (try with_reducible rfl)
        try simp only [Act.put, List.setIfInBounds_toArray, List.set_cons_zero, List.set_cons_succ]
        refine wpAnyH_take (i := 16) (oi := ⟨some 93, _, _, _, _, _⟩) (v := ?_) rfl (by kernel_rfl) (by kernel_rfl) (by kernel_rfl) (fun _ _ _ h => h) (Or.inl ⟨by rfl, ?_⟩) (by assumption) ?_
        rotate_left
        · intro w hSw; (try dsimp only at hSw); go_simp; (try with_reducible rfl)
        try simp only [Act.put, List.setIfInBounds_toArray, List.set_cons_zero, List.set_cons_succ]
        refine wpAnyH_take (i := 17) (oi := ⟨some 94, _, _, _, _, _⟩) (v := ?_) rfl (by kernel_rfl) (by kernel_rfl) (by kernel_rfl) (fun _ _ _ h => h) (Or.inl ⟨by rfl, ?_⟩) (by assumption) ?_
        rotate_left
        · intro w hSw; (try dsimp only at hSw); go_simp; (try with_reducible rfl)
        try simp only [Act.put, List.setIfInBounds_toArray, List.set_cons_zero, List.set_cons_succ]
        refine wpAnyH_take (i := 18) (oi := ⟨some 95, _, _, _, _, _⟩) (v := ?_) rfl (by kernel_rfl) (by kernel_rfl) (by kernel_rfl) (fun _ _ _ h => h) (Or.inl ⟨by rfl, ?_⟩) (by assumption) ?_
        rotate_left
        · intro w hSw; (try dsimp only at hSw); go_simp; (try with_reducible rfl)
        try simp only [Act.put, List.setIfInBounds_toArray, List.set_cons_zero, List.set_cons_succ]
        refine wpAnyH_take (i := 19) (oi := ⟨some 96, _, _, _, _, _⟩) (v := ?_) rfl (by kernel_rfl) (by kernel_rfl) (by kernel_rfl) (fun _ _ _ h => h) (Or.inl ⟨by rfl, ?_⟩) (by assumption) ?_
        rotate_left
        · intro w hSw; (try dsimp only at hSw); go_simp; (try with_reducible rfl)
        try simp only [Act.put, List.setIfInBounds_toArray, List.set_cons_zero, List.set_cons_succ]
        refine wpAnyH_take (i := 20) (oi := ⟨some 97, _, _, _, _, _⟩) (v := ?_) rfl (by kernel_rfl) (by kernel_rfl) (by kernel_rfl) (fun _ _ _ h => h) (Or.inl ⟨by rfl, ?_⟩) (by assumption) ?_
        rotate_left
        · intro w hSw; (try dsimp only at hSw); go_simp; (try with_reducible rfl)
        try simp only [Act.put, List.setIfInBounds_toArray, List.set_cons_zero, List.set_cons_succ]
        refine wpAnyH_take (i := 21) (oi := ⟨some 98, _, _, _, _, _⟩) (v := ?_) rfl (by kernel_rfl) (by kernel_rfl) (by kernel_rfl) (fun _ _ _ h => h) (Or.inl ⟨by rfl, ?_⟩) (by assumption) ?_
        rotate_left
        · intro w hSw; (try dsimp only at hSw); go_simp; (try with_reducible rfl)
        try simp only [Act.put, List.setIfInBounds_toArray, List.set_cons_zero, List.set_cons_succ]
        refine wpAnyH_take (i := 22) (oi := ⟨some 99, _, _, _, _, _⟩) (v := ?_) rfl (by kernel_rfl) (by kernel_rfl) (by kernel_rfl) (fun _ _ _ h => h) (Or.inl ⟨by rfl, ?_⟩) (by assumption) ?_
        rotate_left
        · intro w hSw; (try dsimp only at hSw); go_simp; (try with_reducible rfl)
        try simp only [Act.put, List.setIfInBounds_toArray, List.set_cons_zero, List.set_cons_succ]
        refine wpAnyH_take (i := 23) (oi := ⟨some 100, _, _, _, _, _⟩) (v := ?_) rfl (by kernel_rfl) (by kernel_rfl) (by kernel_rfl) (fun _ _ _ h => h) (Or.inl ⟨by rfl, ?_⟩) (by assumption) ?_
        rotate_left
        · intro w hSw; (try dsimp only at hSw); go_simp; (try with_reducible rfl)
        try simp only [Act.put, List.setIfInBounds_toArray, List.set_cons_zero, List.set_cons_succ]
        refine wpAnyH_take (i := 24) (oi := ⟨some 101, _, _, _, _, _⟩) (v := ?_) rfl (by kernel_rfl) (by kernel_rfl) (by kernel_rfl) (fun _ _ _ h => h) (Or.inl ⟨by rfl, ?_⟩) (by assumption) ?_
        rotate_left
        · intro w hSw; (try dsimp only at hSw); go_simp; (try with_reducible rfl)
        try simp only [Act.put, List.setIfInBounds_toArray, List.set_cons_zero, List.set_cons_succ]
        refine wpAnyH_take (i := 25) (oi := ⟨some 102, _, _, _, _, _⟩) (v := ?_) rfl (by kernel_rfl) (by kernel_rfl) (by kernel_rfl) (fun _ _ _ h => h) (Or.inl ⟨by rfl, ?_⟩) (by assumption) ?_
        rotate_left
        · intro w hSw; (try dsimp only at hSw); go_simp; (try with_reducible rfl)
        try simp only [Act.put, List.setIfInBounds_toArray, List.set_cons_zero, List.set_cons_succ]
        refine wpAnyH_take (i := 26) (oi := ⟨some 103, _, _, _, _, _⟩) (v := ?_) rfl (by kernel_rfl) (by kernel_rfl) (by kernel_rfl) (fun _ _ _ h => h) (Or.inl ⟨by rfl, ?_⟩) (by assumption) ?_
        rotate_left
        · intro w hSw; (try dsimp only at hSw); go_simp; (try with_reducible rfl)
        try simp only [Act.put, List.setIfInBounds_toArray, List.set_cons_zero, List.set_cons_succ]
        refine wpAnyH_take (i := 27) (oi := ⟨some 104, _, _, _, _, _⟩) (v := ?_) rfl (by kernel_rfl) (by kernel_rfl) (by kernel_rfl) (fun _ _ _ h => h) (Or.inl ⟨by rfl, ?_⟩) (by assumption) ?_
        rotate_left
        · intro w hSw; (try dsimp only at hSw); go_simp; (try with_reducible rfl)
        try simp only [Act.put, List.setIfInBounds_toArray, List.set_cons_zero, List.set_cons_succ]
        refine wpAnyH_take (i := 28) (oi := ⟨some 105, _, _, _, _, _⟩) (v := ?_) rfl (by kernel_rfl) (by kernel_rfl) (by kernel_rfl) (fun _ _ _ h => h) (Or.inl ⟨by rfl, ?_⟩) (by assumption) ?_
        rotate_left
        · intro w hSw; (try dsimp only at hSw); go_simp; (try with_reducible rfl)
        try simp only [Act.put, List.setIfInBounds_toArray, List.set_cons_zero, List.set_cons_succ]
        refine wpAnyH_take (i := 29) (oi := ⟨some 106, _, _, _, _, _⟩) (v := ?_) rfl (by kernel_rfl) (by kernel_rfl) (by kernel_rfl) (fun _ _ _ h => h) (Or.inl ⟨by rfl, ?_⟩) (by assumption) ?_
        rotate_left
        · intro w hSw; (try dsimp only at hSw); go_simp; (try with_reducible rfl)
        try simp only [Act.put, List.setIfInBounds_toArray, List.set_cons_zero, List.set_cons_succ]
        refine wpAnyH_take (i := 30) (oi := ⟨some 107, _, _, _, _, _⟩) (v := ?_) rfl (by kernel_rfl) (by kernel_rfl) (by kernel_rfl) (fun _ _ _ h => h) (Or.inl ⟨by rfl, ?_⟩) (by assumption) ?_
        rotate_left
        · intro w hSw; (try dsimp only at hSw); go_simp; (try with_reducible rfl)
        try simp only [Act.put, List.setIfInBounds_toArray, List.set_cons_zero, List.set_cons_succ]
        refine wpAnyH_take (i := 31) (oi := ⟨some 108, _, _, _, _, _⟩) (v := ?_) rfl (by kernel_rfl) (by kernel_rfl) (by kernel_rfl) (fun _ _ _ h => h) (Or.inl ⟨by rfl, ?_⟩) (by assumption) ?_
        rotate_left
        · intro w hSw; (try dsimp only at hSw); go_simp; (try with_reducible rfl)
        try simp only [Act.put, List.setIfInBounds_toArray, List.set_cons_zero, List.set_cons_succ]
        refine wpAnyH_take (i := 32) (oi := ⟨some 109, _, _, _, _, _⟩) (v := ?_) rfl (by kernel_rfl) (by kernel_rfl) (by kernel_rfl) (fun _ _ _ h => h) (Or.inl ⟨by rfl, ?_⟩) (by assumption) ?_
        rotate_left
        · intro w hSw; (try dsimp only at hSw); go_simp; (try with_reducible rfl)
        try simp only [Act.put, List.setIfInBounds_toArray, List.set_cons_zero, List.set_cons_succ]
        refine wpAnyH_take (i := 33) (oi := ⟨some 110, _, _, _, _, _⟩) (v := ?_) rfl (by kernel_rfl) (by kernel_rfl) (by kernel_rfl) (fun _ _ _ h => h) (Or.inl ⟨by rfl, ?_⟩) (by assumption) ?_
        rotate_left
        · intro w hSw; (try dsimp only at hSw); go_simp; (try with_reducible rfl)
        try simp only [Act.put, List.setIfInBounds_toArray, List.set_cons_zero, List.set_cons_succ]
        refine wpAnyH_take (i := 34) (oi := ⟨some 111, _, _, _, _, _⟩) (v := ?_) rfl (by kernel_rfl) (by kernel_rfl) (by kernel_rfl) (fun _ _ _ h => h) (Or.inl ⟨by rfl, ?_⟩) (by assumption) ?_
        rotate_left
        · intro w hSw; (try dsimp only at hSw); go_simp; (try with_reducible rfl)
        try simp only [Act.put, List.setIfInBounds_toArray, List.set_cons_zero, List.set_cons_succ]
        refine wpAnyH_take (i := 35) (oi := ⟨some 112, _, _, _, _, _⟩) (v := ?_) rfl (by kernel_rfl) (by kernel_rfl) (by kernel_rfl) (fun _ _ _ h => h) (Or.inl ⟨by rfl, ?_⟩) (by assumption) ?_
        rotate_left
        · intro w hSw; (try dsimp only at hSw); go_simp; (try with_reducible rfl)
        try simp only [Act.put, List.setIfInBounds_toArray, List.set_cons_zero, List.set_cons_succ]
        refine wpAnyH_take (i := 36) (oi := ⟨some 113, _, _, _, _, _⟩) (v := ?_) rfl (by kernel_rfl) (by kernel_rfl) (by kernel_rfl) (fun _ _ _ h => h) (Or.inl ⟨by rfl, ?_⟩) (by assumption) ?_
        rotate_left
        · intro w hSw; (try dsimp only at hSw); go_simp; (try with_reducible rfl)
        try simp only [Act.put, List.setIfInBounds_toArray, List.set_cons_zero, List.set_cons_succ]
        refine wpAnyH_take (i := 37) (oi := ⟨some 114, _, _, _, _, _⟩) (v := ?_) rfl (by kernel_rfl) (by kernel_rfl) (by kernel_rfl) (fun _ _ _ h => h) (Or.inl ⟨by rfl, ?_⟩) (by assumption) ?_
        rotate_left
        · intro w hSw; (try dsimp only at hSw); go_simp; (try with_reducible rfl)
        try simp only [Act.put, List.setIfInBounds_toArray, List.set_cons_zero, List.set_cons_succ]
        refine wpAnyH_take (i := 38) (oi := ⟨some 115, _, _, _, _, _⟩) (v := ?_) rfl (by kernel_rfl) (by kernel_rfl) (by kernel_rfl) (fun _ _ _ h => h) (Or.inl ⟨by rfl, ?_⟩) (by assumption) ?_
        rotate_left
        · intro w hSw; (try dsimp only at hSw); go_simp; (try with_reducible rfl)
        try simp only [Act.put, List.setIfInBounds_toArray, List.set_cons_zero, List.set_cons_succ]
        refine wpAnyH_take (i := 39) (oi := ⟨some 116, _, _, _, _, _⟩) (v := ?_) rfl (by kernel_rfl) (by kernel_rfl) (by kernel_rfl) (fun _ _ _ h => h) (Or.inl ⟨by rfl, ?_⟩) (by assumption) ?_
        rotate_left
        · intro w hSw; (try dsimp only at hSw); go_simp; (try with_reducible rfl)
        try simp only [Act.put, List.setIfInBounds_toArray, List.set_cons_zero, List.set_cons_succ]
        refine wpAnyH_take (i := 40) (oi := ⟨some 117, _, _, _, _, _⟩) (v := ?_) rfl (by kernel_rfl) (by kernel_rfl) (by kernel_rfl) (fun _ _ _ h => h) (Or.inl ⟨by rfl, ?_⟩) (by assumption) ?_
        rotate_left
        · intro w hSw; (try dsimp only at hSw); go_simp; (try with_reducible rfl)
        try simp only [Act.put, List.setIfInBounds_toArray, List.set_cons_zero, List.set_cons_succ]
        refine wpAnyH_take (i := 41) (oi := ⟨some 118, _, _, _, _, _⟩) (v := ?_) rfl (by kernel_rfl) (by kernel_rfl) (by kernel_rfl) (fun _ _ _ h => h) (Or.inl ⟨by rfl, ?_⟩) (by assumption) ?_
        rotate_left
        · intro w hSw; (try dsimp only at hSw); go_simp; (try with_reducible rfl)
        try simp only [Act.put, List.setIfInBounds_toArray, List.set_cons_zero, List.set_cons_succ]
        refine wpAnyH_take (i := 42) (oi := ⟨some 119, _, _, _, _, _⟩) (v := ?_) rfl (by kernel_rfl) (by kernel_rfl) (by kernel_rfl) (fun _ _ _ h => h) (Or.inl ⟨by rfl, ?_⟩) (by assumption) ?_
        rotate_left
        · intro w hSw; (try dsimp only at hSw); go_simp; (try with_reducible rfl)
        try simp only [Act.put, List.setIfInBounds_toArray, List.set_cons_zero, List.set_cons_succ]
        refine wpAnyH_take (i := 43) (oi := ⟨some 120, _, _, _, _, _⟩) (v := ?_) rfl (by kernel_rfl) (by kernel_rfl) (by kernel_rfl) (fun _ _ _ h => h) (Or.inl ⟨by rfl, ?_⟩) (by assumption) ?_
        rotate_left
        · intro w hSw; (try dsimp only at hSw); go_simp; (try with_reducible rfl)
        try simp only [Act.put, List.setIfInBounds_toArray, List.set_cons_zero, List.set_cons_succ]
        refine wpAnyH_take (i := 44) (oi := ⟨some 121, _, _, _, _, _⟩) (v := ?_) rfl (by kernel_rfl) (by kernel_rfl) (by kernel_rfl) (fun _ _ _ h => h) (Or.inl ⟨by rfl, ?_⟩) (by assumption) ?_
        rotate_left
        · intro w hSw; (try dsimp only at hSw); go_simp; (try with_reducible rfl)
        try simp only [Act.put, List.setIfInBounds_toArray, List.set_cons_zero, List.set_cons_succ]
        refine wpAnyH_take (i := 45) (oi := ⟨some 122, _, _, _, _, _⟩) (v := ?_) rfl (by kernel_rfl) (by kernel_rfl) (by kernel_rfl) (fun _ _ _ h => h) (Or.inl ⟨by rfl, ?_⟩) (by assumption) ?_
        rotate_left
        · intro w hSw; (try dsimp only at hSw); go_simp; (try with_reducible rfl)
        try simp only [Act.put, List.setIfInBounds_toArray, List.set_cons_zero, List.set_cons_succ]
        refine wpAnyH_take (i := 46) (oi := ⟨some 123, _, _, _, _, _⟩) (v := ?_) rfl (by kernel_rfl) (by kernel_rfl) (by kernel_rfl) (fun _ _ _ h => h) (Or.inl ⟨by rfl, ?_⟩) (by assumption) ?_
        rotate_left
        · intro w hSw; (try dsimp only at hSw); go_simp; (try with_reducible rfl)
        try simp only [Act.put, List.setIfInBounds_toArray, List.set_cons_zero, List.set_cons_succ]
        refine wpAnyH_take (i := 47) (oi := ⟨some 124, _, _, _, _, _⟩) (v := ?_) rfl (by kernel_rfl) (by kernel_rfl) (by kernel_rfl) (fun _ _ _ h => h) (Or.inl ⟨by rfl, ?_⟩) (by assumption) ?_
        rotate_left
        · intro w hSw; (try dsimp only at hSw); go_simp; (try with_reducible rfl)
        try simp only [Act.put, List.setIfInBounds_toArray, List.set_cons_zero, List.set_cons_succ]
        refine wpAnyH_ready (rs := [48]) (by kernel_rfl) (by simp) (AllReadyH.cons (o := ⟨some 9, _, _, _, _, _⟩) rfl (fun Kc hKc => ?_) AllReadyH.nil)
        go_simp
        have z1 : Below w3.heap.size w3 (w3.drew.alloc (.cells #[.int .i64 0, .int .i64 0, .bool false, .bool false, .int .i64 0, .int .i64 0, .int .i64 0, .int .u32 0, .int .u32 0, .slice none 0 0, .slice none 0 0] 43)) := (below_drew (Below.refl _ _)).alloc (Nat.le_refl _) _
        clear hHeld
        refine hKc.out _ _ ?_ (fun hHeld => ?_)
        · (try dsimp only); exact K _ z1
        clear hKc Kc
        try simp only [Act.put, List.setIfInBounds_toArray, List.set_cons_zero, List.set_cons_succ]
        refine wpAnyH_ready (rs := [49]) (by kernel_rfl) (by simp) (AllReadyH.cons (o := ⟨none, _, _, _, _, _⟩) rfl (fun Kc hKc => ?_) AllReadyH.nil)
        go_simp
        clear hHeld
        refine hKc.out _ _ ?_ (fun hHeld => ?_)
        · (try dsimp only); exact K _ (by with_reducible first | exact below_drew ((Below.refl _ _).alloc (Nat.le_refl _) _) | exact (below_drew (Below.refl _ _)).alloc (Nat.le_refl _) _)
        clear hKc Kc
        try simp only [Act.put, List.setIfInBounds_toArray, List.set_cons_zero, List.set_cons_succ]
        refine wpAnyH_done (by kernel_rfl) ?_ _
        go_wp2_with fail
        go_meet
        exact ⟨w3.heap.size, rfl, Nat.le_refl _, by simp, (by with_reducible first | exact below_drew ((Below.refl _ _).alloc (Nat.le_refl _) _) | exact (below_drew (Below.refl _ _)).alloc (Nat.le_refl _) _), fun o => by simp [go_sem], by constructor <;> (simp [go_sem] <;> rfl)⟩
      case rest =>
      obtain ⟨g, rfl, hg1, hg2, y4, f4, C4⟩ := hcut
      clear D1 D2 D3 D4 D5 r1 r4 r6 r8 r9 i1 i8 i9 hw3 e6 B12 B14 B16 B18 E1 E2 E3 E4 E5 E6 E7 E8 K HW3 hC1 hC8 hC9 b6 b7 z0 z1 z2 z3 z4 z5 z6 z7 z8 z9 z10 zf c0 c1 c2 c3
      go_upto_region 19 with fail
      have hg : w.heap.size + 2 ≤ g := Nat.le_trans a3.size hg1
      have a4 := a3.call y4
      clear a3 y4 HTL HLen HL20 HQ HH hh b0 b1 i0 h20' t1 i20 l1 l2 l3 hgw3 hgw1 eq64 t5
      have HBo : Hid (Bs w w.heap.size (if cb = 20 then (some ad : Option Addr) else some { block := ad.block, off := ad.off + 20 }) ((m.body.take k).drop 20)) := Go.Lib.hid ((HI.out.bs.take k).cut 20 cb (by rw [List.length_take]; omega) (by omega))
      have HNo : Hid ((if cb = 20 then (some ad : Option Addr) else some { block := ad.block, off := ad.off + 20 }) = none → cb - 20 = 0) := Go.Lib.hid (fun h => by split at h <;> cases h)
      have HLo : Hid (((m.body.take k).drop 20).length = k - 20) := Go.Lib.hid (by rw [List.length_drop, List.length_take]; omega)
      have j1 : (20 : Int) ≤ (k : Int) := by omega
      have p9 := C4.c9
      have f49 := f4 9
      go_upto_region 20 with (at_builtin; refine wpList_copy_rd rfl _ _ 23 rfl 5 i0_ (.int .u8 0) 1 Try.underlying23 hi hz0 hz1 hz2 rfl rfl w.heap.size _ (k - 20) (cb - 20) (((m.body.take k).drop 20).map bv) rfl (by simpa using HLo.out) HNo.out (HBo.out.below a4.below).rd a4.below.size (bv_one _) (by unfold maxLen; omega) (by omega) ?_; intro vo Y5 hown5 hb5; obtain ⟨Ao, co, rfl, hgo⟩ := own_gives hown5 hb5; have C5 := C4.keep hb5 hg2; have p9' := C5.c9; have f5 : ∀ o, Y5.frozen? ⟨g, o, none⟩ = false := (fun o => (hb5.frozen (p := ⟨g, o, none⟩) hg2).trans (f4 o)); have f59 := f5 9; clear p9 f49)
      have a6 := (a4.call hb5).step ((Below.refl _ _).setCell (p := ⟨g, 9, none⟩) hg (.slice Ao (k - 20) co))
      have f1 : ∀ ad, Ao = some ad → g ≠ ad.block := fun a e => by have := hgo.fresh a e; omega
      have q4 : ∀ ad, Ao = some ad → w.heap.size + 2 ≤ ad.block := fun a e => by have := hgo.fresh a e; omega
      have C6 := C5.set9 (.slice Ao (k - 20) co)
      have f6 : ∀ o, (Y5.setCell ⟨g, 9, none⟩ (.slice Ao (k - 20) co)).frozen? ⟨g, o, none⟩ = false := fun o => by rw [World.frozen?_setCell]; exact f5 o
      have hbo := (hgo.bs.far ⟨g, 9, none⟩ (.slice Ao (k - 20) co) f1).more (show _ ≤ (Y5.setCell ⟨g, 9, none⟩ (.slice Ao (k - 20) co)).heap.size by simp)
      have hgb : g < (Y5.setCell ⟨g, 9, none⟩ (.slice Ao (k - 20) co)).heap.size := by have := hb5.size; simp; omega
      have o1 := hgo.len
      have o2 := hgo.cap
      have o3 := hgo.nil
      rw [HLo.out] at o1
      clear hgo hown5 hb5 C5 f5 p9' f59 C4 f4 a4 hg2 hg1 HBo HNo
      generalize (if cb = 20 then (some ad : Option Addr) else some { block := ad.block, off := ad.off + 20 }) = AA2
      generalize Y5.setCell ⟨g, 9, none⟩ (.slice Ao (k - 20) co) = Y6 at *
      obtain ⟨base, hbase⟩ : ∃ base, Y6.heap.size = base := ⟨_, rfl⟩
      rw [hbase] at hbo hgb
      have hb2 : w.heap.size + 2 ≤ base := by omega
      have hL0 : LpI m ad cb w g base k k Ao (k - 20) co ((m.body.take k).drop 20) TB Y6 none 0 := ⟨a6, by rw [Nat.sub_self]; exact C6, f6, by rw [Nat.sub_self, List.take_zero]; exact Row.nil_, hbo, Nat.le_of_eq hbase.symm⟩
      have HL0 := Go.Lib.hid hL0
      clear hL0 a6 C6 f6 hbo hbase
      go_wp2_with fail
      go_loopw [10] (fun i wr => ∃ (t : Nat) (A : Option Addr) (c : Nat), k ≤ t ∧ t ≤ Q ∧ i = .int .i64 (t : Int) ∧ LpI m ad cb w g base k t Ao (k - 20) co ((m.body.take k).drop 20) TB wr A c) (fun i _ => Q - (intOf i).toNat)
      case atStart => exact ⟨k, none, 0, Nat.le_refl _, kQ, rfl, HL0.out⟩
      case round =>
        obtain ⟨t, A, c, hkt, htQ, rfl, hL⟩ := hrel
        by_cases ht : t < Q
        · have g1 : (t : Int) < (m.body.length : Int) := by omega
          have g2 : (t : Int) < (q : Int) := by omega
          have al := hL.al
          have CC := Go.Lib.hid hL.cc
          have FZ := Go.Lib.hid hL.fz
          have HROW := Go.Lib.hid hL.row
          have OB := Go.Lib.hid hL.obs
          have hbz := hL.bz
          clear hL
          go_upto_region 23 with fail
          obtain ⟨y, hy⟩ : ∃ y : Int, g8 m.body t = y := ⟨_, rfl⟩
          have y0 : 0 ≤ y := hy ▸ g8_lo m.body t
          have y1 : y ≤ 255 := hy ▸ g8_hi m.body t
          have HAPP : Hid (TB.take (t - k) ++ [b8 y] = TB.take (t + 1 - k)) := Go.Lib.hid (by rw [← hy]; exact tb_step m.body TB Q k t HTB.out hkt ht Qn)
          have HTK : Hid ((TB.take (t + 1 - k)).length = t + 1 - k) := Go.Lib.hid (by have := HDL.out; rw [List.length_take]; omega)
          have hgw : g < wr.heap.size := Nat.lt_of_lt_of_le hgb hbz
          have hcy : Hid (w.cell? (ad.add t) = some (.int .u8 y)) := Go.Lib.hid (by
            obtain ⟨ad', e, _, hcell⟩ := g8_cells HI.out.bs (by omega)
            cases e
            rw [← hy]; exact hcell t (by omega))
          have K : ∀ Y, Al m (some ad) cb w Y → Y.cell? (ad.add t) = some (.int .u8 y) ∧ Al m (some ad) cb w Y := fun Y y => ⟨(y.below.cell (p := ad.add t) (by rw [block_add]; exact hlt)).trans hcy.out, y⟩
          have z6 : Below wr.heap.size wr (wr.drew.alloc (.cells #[.int .u8 y] 5)) := (below_drew (Below.refl _ _)).alloc (Nat.le_refl _) _
          have a6 := al.call z6
          have HLIT : Hid (Bs (wr.drew.alloc (.cells #[.int .u8 y] 5)) (wr.drew.alloc (.cells #[.int .u8 y] 5)).heap.size (some ⟨wr.heap.size, 0, none⟩) [b8 y]) := Go.Lib.hid (own_lit wr.drew wr.heap.size [y] (by intro x hx; simp at hx; omega) (Nat.le_refl _) (by simp)).bs
          have p00 := CC.out.c10
          obtain ⟨c0, c1, c2, c3⟩ := al.is.cells
          have et := IntWalk.i64_in ((t : Int) + 1) (by omega)
          clear hy HL0
          refine wp_region_held_drew (S := (fun Y => Y.cell? (ad.add t) = some (.int .u8 y) ∧ Al m (some ad) cb w Y)) (by kernel_rfl) ?_ (fun hHeld => ?_)
          · exact K _ (al.call (below_drew (Below.refl _ _)))
          refine wpAnyH_take (i := 0) (oi := ⟨some 143, _, _, _, _, _⟩) (v := ?_) rfl (by kernel_rfl) (by kernel_rfl) (by kernel_rfl) (fun _ _ _ h => h) (Or.inl ⟨by rfl, ?_⟩) (by assumption) ?_
          rotate_left
          · intro w hSw; (try dsimp only at hSw); go_simp; (try with_reducible rfl)
          try simp only [Act.put, List.setIfInBounds_toArray, List.set_cons_zero, List.set_cons_succ]
          refine wpAnyH_take (i := 2) (oi := ⟨some 145, _, _, _, _, _⟩) (v := ?_) rfl (by kernel_rfl) (by kernel_rfl) (by kernel_rfl) (fun _ _ _ h => h) (Or.inl ⟨by rfl, ?_⟩) (by assumption) ?_
          rotate_left
          · intro w hSw; (try dsimp only at hSw); go_simp; (try with_reducible rfl)
          try simp only [Act.put, List.setIfInBounds_toArray, List.set_cons_zero, List.set_cons_succ]
          refine wpAnyH_take (i := 3) (oi := ⟨some 146, _, _, _, _, _⟩) (v := ?_) rfl (by kernel_rfl) (by kernel_rfl) (by kernel_rfl) (fun _ _ _ h => h) (Or.inl ⟨by rfl, ?_⟩) (by assumption) ?_
          rotate_left
          · intro w hSw; (try dsimp only at hSw); go_simp; (try with_reducible rfl)
          try simp only [Act.put, List.setIfInBounds_toArray, List.set_cons_zero, List.set_cons_succ]
          refine wpAnyH_take (i := 4) (oi := ⟨some 147, _, _, _, _, _⟩) (v := ?_) rfl (by kernel_rfl) (by kernel_rfl) (by kernel_rfl) (fun _ _ _ h => h) (Or.inl ⟨by rfl, ?_⟩) (by assumption) ?_
          rotate_left
          · intro w hSw; (try dsimp only at hSw); go_simp; (try with_reducible rfl)
          try simp only [Act.put, List.setIfInBounds_toArray, List.set_cons_zero, List.set_cons_succ]
          refine wpAnyH_take (i := 5) (oi := ⟨some 148, _, _, _, _, _⟩) (v := ?_) rfl (by kernel_rfl) (by kernel_rfl) (by kernel_rfl) (fun _ _ _ h => h) (Or.inl ⟨by rfl, ?_⟩) (by assumption) ?_
          rotate_left
          · intro w hSw; (try dsimp only at hSw); go_simp; (try with_reducible rfl)
          try simp only [Act.put, List.setIfInBounds_toArray, List.set_cons_zero, List.set_cons_succ]
          refine wpAnyH_ready (rs := [1, 6]) (by kernel_rfl) (by simp) (AllReadyH.cons (o := ⟨some 144, _, _, _, _, _⟩) rfl (fun Kc hKc => ?_) (AllReadyH.cons (o := ⟨some 149, _, _, _, _, _⟩) rfl (fun Kc hKc => ?_) AllReadyH.nil))
          ·
            go_simp
            clear hHeld
            refine hKc.out _ _ ?_ (fun hHeld => ?_)
            · (try dsimp only); exact K _ (al.call (below_drew (Below.refl _ _)))
            clear hKc Kc
            try simp only [Act.put, List.setIfInBounds_toArray, List.set_cons_zero, List.set_cons_succ]
            refine wpAnyH_ready (rs := [6]) (by kernel_rfl) (by simp) (AllReadyH.cons (o := ⟨some 149, _, _, _, _, _⟩) rfl (fun Kc hKc => ?_) AllReadyH.nil)
            go_simp
            clear hHeld
            refine hKc.out _ _ ?_ (fun hHeld => ?_)
            · (try dsimp only); exact K _ a6
            clear hKc Kc
            try simp only [Act.put, List.setIfInBounds_toArray, List.set_cons_zero, List.set_cons_succ]
            refine wpAnyH_ready (rs := [7]) (by kernel_rfl) (by simp) (AllReadyH.cons (o := ⟨some 150, _, _, _, _, _⟩) rfl (fun Kc hKc => ?_) AllReadyH.nil)
            refine apS rfl _ _ rfl base _ (TB.take (t - k)) rfl (HROW.out.keep z6) _ (some ⟨wr.heap.size, 0, none⟩) 1 1 [b8 y] rfl rfl (fun h => by cases h) HLIT.out (by have := HDL.out; rw [List.length_take]; omega) (by omega) (Nat.le_trans hbz z6.size) ?_
            intro v7 w7 hrow7 hb7
            have a7 := a6.step (hb7.mono hb2)
            have C7 := (CC.out.keep z6 hgw).keep hb7 hgb
            have f7 : ∀ o, w7.frozen? ⟨g, o, none⟩ = false := fun o => ((hb7.frozen (p := ⟨g, o, none⟩) hgb).trans (z6.frozen (p := ⟨g, o, none⟩) hgw)).trans (FZ.out o)
            have o7 := (OB.out.below (z6.mono hbz)).below hb7
            have n7 := Nat.le_trans (Nat.le_trans hbz z6.size) hb7.size
            rw [HAPP.out] at hrow7
            obtain ⟨A7, c7, hv7, hl7, hc7, hn7, hs7⟩ := hrow7.form
            rw [HTK.out] at hv7
            subst hv7
            have p7 := C7.c10
            have f70 := f7 10
            clear hHeld
            refine hKc.out _ _ ?_ (fun hHeld => ?_)
            · (try dsimp only); exact K _ a7
            clear hKc Kc
            try simp only [Act.put, List.setIfInBounds_toArray, List.set_cons_zero, List.set_cons_succ]
            refine wpAnyH_take (i := 8) (oi := ⟨some 151, _, _, _, _, _⟩) (v := ?_) rfl (by kernel_rfl) (by kernel_rfl) (by kernel_rfl) (fun _ _ _ h => h) (Or.inl ⟨by rfl, ?_⟩) (by assumption) ?_
            rotate_left
            · intro w hSw; (try dsimp only at hSw); go_simp; (try with_reducible rfl)
            try simp only [Act.put, List.setIfInBounds_toArray, List.set_cons_zero, List.set_cons_succ]
            refine wpAnyH_ready (rs := [9]) (by kernel_rfl) (by simp) (AllReadyH.cons (o := ⟨none, _, _, _, _, _⟩) rfl (fun Kc hKc => ?_) AllReadyH.nil)
            go_simp
            have a9 := a7.step ((Below.refl _ _).setCell (p := ⟨g, 10, none⟩) hg (.slice A7 (t + 1 - k) c7))
            clear hHeld
            refine hKc.out _ _ ?_ (fun hHeld => ?_)
            · (try dsimp only); exact K _ a9
            clear hKc Kc
            try simp only [Act.put, List.setIfInBounds_toArray, List.set_cons_zero, List.set_cons_succ]
            refine wpAnyH_done (by kernel_rfl) ?_ _
            go_wp2
            go_roundw
            case rel => exact ⟨t + 1, A7, c7, by omega, by omega, by go_num, ⟨a9, C7.set10 _, fun o => by rw [World.frozen?_setCell]; exact f7 o, hrow7.setI hgb _, o7.far ⟨g, 10, none⟩ _ f1, by simpa using n7⟩⟩
            case measure => simp [intOf]; omega
          go_simp
          clear hHeld
          refine hKc.out _ _ ?_ (fun hHeld => ?_)
          · (try dsimp only); exact K _ a6
          clear hKc Kc
          try simp only [Act.put, List.setIfInBounds_toArray, List.set_cons_zero, List.set_cons_succ]
          refine wpAnyH_ready (rs := [1]) (by kernel_rfl) (by simp) (AllReadyH.cons (o := ⟨some 144, _, _, _, _, _⟩) rfl (fun Kc hKc => ?_) AllReadyH.nil)
          have p0 := (CC.out.keep z6 hgw).c10
          go_simp
          clear hHeld
          refine hKc.out _ _ ?_ (fun hHeld => ?_)
          · (try dsimp only); exact K _ a6
          clear hKc Kc
          try simp only [Act.put, List.setIfInBounds_toArray, List.set_cons_zero, List.set_cons_succ]
          refine wpAnyH_ready (rs := [7]) (by kernel_rfl) (by simp) (AllReadyH.cons (o := ⟨some 150, _, _, _, _, _⟩) rfl (fun Kc hKc => ?_) AllReadyH.nil)
          refine apS rfl _ _ rfl base _ (TB.take (t - k)) rfl (HROW.out.keep z6) _ (some ⟨wr.heap.size, 0, none⟩) 1 1 [b8 y] rfl rfl (fun h => by cases h) HLIT.out (by have := HDL.out; rw [List.length_take]; omega) (by omega) (Nat.le_trans hbz z6.size) ?_
          intro v7 w7 hrow7 hb7
          have a7 := a6.step (hb7.mono hb2)
          have C7 := (CC.out.keep z6 hgw).keep hb7 hgb
          have f7 : ∀ o, w7.frozen? ⟨g, o, none⟩ = false := fun o => ((hb7.frozen (p := ⟨g, o, none⟩) hgb).trans (z6.frozen (p := ⟨g, o, none⟩) hgw)).trans (FZ.out o)
          have o7 := (OB.out.below (z6.mono hbz)).below hb7
          have n7 := Nat.le_trans (Nat.le_trans hbz z6.size) hb7.size
          rw [HAPP.out] at hrow7
          obtain ⟨A7, c7, hv7, hl7, hc7, hn7, hs7⟩ := hrow7.form
          rw [HTK.out] at hv7
          subst hv7
          have p7 := C7.c10
          have f70 := f7 10
          clear hHeld
          refine hKc.out _ _ ?_ (fun hHeld => ?_)
          · (try dsimp only); exact K _ a7
          clear hKc Kc
          try simp only [Act.put, List.setIfInBounds_toArray, List.set_cons_zero, List.set_cons_succ]
          refine wpAnyH_take (i := 8) (oi := ⟨some 151, _, _, _, _, _⟩) (v := ?_) rfl (by kernel_rfl) (by kernel_rfl) (by kernel_rfl) (fun _ _ _ h => h) (Or.inl ⟨by rfl, ?_⟩) (by assumption) ?_
          rotate_left
          · intro w hSw; (try dsimp only at hSw); go_simp; (try with_reducible rfl)
          try simp only [Act.put, List.setIfInBounds_toArray, List.set_cons_zero, List.set_cons_succ]
          refine wpAnyH_ready (rs := [9]) (by kernel_rfl) (by simp) (AllReadyH.cons (o := ⟨none, _, _, _, _, _⟩) rfl (fun Kc hKc => ?_) AllReadyH.nil)
          go_simp
          have a9 := a7.step ((Below.refl _ _).setCell (p := ⟨g, 10, none⟩) hg (.slice A7 (t + 1 - k) c7))
          clear hHeld
          refine hKc.out _ _ ?_ (fun hHeld => ?_)
          · (try dsimp only); exact K _ a9
          clear hKc Kc
          try simp only [Act.put, List.setIfInBounds_toArray, List.set_cons_zero, List.set_cons_succ]
          refine wpAnyH_done (by kernel_rfl) ?_ _
          go_wp2
          go_roundw
          case rel => exact ⟨t + 1, A7, c7, by omega, by omega, by go_num, ⟨a9, C7.set10 _, fun o => by rw [World.frozen?_setCell]; exact f7 o, hrow7.setI hgb _, o7.far ⟨g, 10, none⟩ _ f1, by simpa using n7⟩⟩
          case measure => simp [intOf]; omega
        · have htq : t = Q := by omega
          have h67 : ¬ (t : Int) < (m.body.length : Int) ∨ ((t : Int) < (m.body.length : Int) ∧ ¬ (t : Int) < (q : Int)) := by have := HQE.out; omega
          have HTK : Hid (TB.take (t - k) = TB) := Go.Lib.hid (List.take_of_length_le (by have := HDL.out; omega))
          have HDT : Hid (TB.length = t - k) := Go.Lib.hid (by rw [HDL.out, htq])
          have al := hL.al
          have CC := hL.cc
          have hrow := hL.row
          rw [HTK.out] at hrow
          have hlt2 := hrow.lt
          obtain ⟨A', c', hv, hlen, hcap, hnil, hbs⟩ := hrow.form
          rw [HDT.out] at hv
          obtain ⟨rfl, _, rfl⟩ := Value.slice.inj hv
          have OB := hL.obs
          have hbz := hL.bz
          have ff : ∀ ad, A = some ad → w.heap.size + 2 ≤ ad.block := fun ad e => by subst e; have := (hlt2 ad.block rfl).1; omega
          have HV : Hid ((.agg #[.int .i64 (g8 m.body 1), .int .i64 (wd m.body 4), .bool (decide (wd m.body 6 / 16384 % 2 = 1)), .bool (decide (wd m.body 6 / 8192 % 2 = 1)), .int .i64 (wd m.body 6 % 8192 * 8), .int .i64 (g8 m.body 8), .int .i64 (g8 m.body 9), .int .u32 (wd m.body 12 * 65536 + wd m.body 14), .int .u32 (wd m.body 16 * 65536 + wd m.body 18), .slice Ao (k - 20) co, .slice A (t - k) c] : Value) = pkV (rdP (m.body.take k) TB) Ao co A c) := Go.Lib.hid (by
            have hr := rdP_take m.body k TB k20 kn
            have e1 := HLo.out
            have e2 := HDT.out
            rw [hr]
            show _ = (.agg #[.int .i64 (g8 m.body 1), .int .i64 (wd m.body 4), .bool (decide (wd m.body 6 / 16384 % 2 = 1)), .bool (decide (wd m.body 6 / 8192 % 2 = 1)), .int .i64 (wd m.body 6 % 8192 * 8), .int .i64 (g8 m.body 8), .int .i64 (g8 m.body 9), .int .u32 (wd m.body 12 * 65536 + wd m.body 14), .int .u32 (wd m.body 16 * 65536 + wd m.body 18), .slice Ao ((m.body.take k).drop 20).length co, .slice A TB.length c] : Value)
            rw [e1, e2])
          have HG : Hid (GivesPk w (((((((((((wr.setCell ⟨w.heap.size + 1, 0, none⟩ (.int .i64 (g8 m.body 1))).setCell ⟨w.heap.size + 1, 1, none⟩ (.int .i64 (wd m.body 4))).setCell ⟨w.heap.size + 1, 2, none⟩ (.bool (decide (wd m.body 6 / 16384 % 2 = 1)))).setCell ⟨w.heap.size + 1, 3, none⟩ (.bool (decide (wd m.body 6 / 8192 % 2 = 1)))).setCell ⟨w.heap.size + 1, 4, none⟩ (.int .i64 (wd m.body 6 % 8192 * 8))).setCell ⟨w.heap.size + 1, 5, none⟩ (.int .i64 (g8 m.body 8))).setCell ⟨w.heap.size + 1, 6, none⟩ (.int .i64 (g8 m.body 9))).setCell ⟨w.heap.size + 1, 7, none⟩ (.int .u32 (wd m.body 12 * 65536 + wd m.body 14))).setCell ⟨w.heap.size + 1, 8, none⟩ (.int .u32 (wd m.body 16 * 65536 + wd m.body 18))).setCell ⟨w.heap.size + 1, 9, none⟩ (.slice Ao (k - 20) co)).setCell ⟨w.heap.size + 1, 10, none⟩ (.slice A (t - k) c)) (rdP (m.body.take k) TB) Ao co A c) := Go.Lib.hid
            ⟨by show ((m.body.take k).drop 20).length ≤ co; rw [HLo.out]; exact o1, o2, o3, (bs_set11 (OB.more hbz) (fun ad e => by have := q4 ad e; omega) _ _ _ _ _ _ _ _ _ _ _).more (by rw [size_set11]; exact Nat.le_refl _), fun ad e => by have := q4 ad e; omega, hlen, hcap, hnil, (bs_set11 hbs (fun ad e => by have := ff ad e; omega) _ _ _ _ _ _ _ _ _ _ _).more (by rw [size_set11]; exact Nat.le_refl _), fun ad e => by have := ff ad e; omega, below_far11 al.below (Nat.le_succ _) _ _ _ _ _ _ _ _ _ _ _⟩
          obtain ⟨d0, d1, d2, d3, d4, d5, d6, d7, d8, d9, d10⟩ := CC
          obtain ⟨c0, c1, c2, c3⟩ := al.is.cells
          obtain ⟨z0, z1, z2, z3, z4, z5, z6, z7, z8, z9, z10⟩ := al.z
          have zf := al.fz
          clear hL hrow hlt2 hlen hcap hnil hbs OB hbz ff htq HTK HDT HL0 HTB HDL HQE hv al
          rcases h67 with g1 | ⟨g1, g2⟩
          all_goals
            go_wp2
            refine bodyPost_ret (v := .tuple #[pkV (rdP (m.body.take k) TB) Ao co A c, .int .i64 0]) ?_ rfl ⟨Ao, co, A, c, by rw [HPF.out], by rw [HPF.out]; exact HG.out⟩
            rw [← HV.out]
            simp [results, Try.results22, go_sem, z0, z1, z2, z3, z4, z5, z6, z7, z8, z9, z10]
  · have HP5 : Hid (aboutI m = (5, Pk.empty)) := Go.Lib.hid (by rw [HP.out, if_pos (by simpa using h5)])
    have t5 : (s != 65535) = true := by simpa using h5
    clear h5 HP
    go_wp2
    refine bodyPost_ret (v := .tuple #[.agg #[.int .i64 0, .int .i64 0, .bool false, .bool false, .int .i64 0, .int .i64 0, .int .i64 0, .int .u32 0, .int .u32 0, .slice none 0 0, .slice none 0 0], .int .i64 5]) ?_ rfl (about_err HP5.out rfl ?_)
    · simp [results, Try.results22, go_sem, z0, z1, z2, z3, z4, z5, z6, z7, z8, z9, z10]
    · exact below_far11 a3.below (Nat.le_succ _) _ _ _ _ _ _ _ _ _ _ _

theorem rabout (m : Ic) (Ab : Option Addr) (cb : Nat) (w : World) (hI : IcIn w w.heap.size m Ab cb) (hl : m.body.length ≤ 16777216) :
    Calls Try.prog 22 #[icV m Ab cb] w (AboutPost w (aboutI m)) := by
  by_cases hz : errK m.type = true
  · by_cases hM : imE m.body = 0
    · exact raboutB m Ab cb w hI hl hz hM
    · exact raboutM m Ab cb w hI hl hz hM
  · exact raboutK m Ab cb w hI (by simpa using hz)
end Go.Proofs.Ytndhiopfkgdhcaa
