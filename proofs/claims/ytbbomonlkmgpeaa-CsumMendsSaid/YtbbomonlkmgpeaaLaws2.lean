/- CsumStands and CsumOrder, walked: each returns true, whatever it is given; memory that was there is as it was. -/
import Derived.Test.YtbbomonlkmgpeaaLaws
namespace Go.Proofs.Ytbbomonlkmgpeaa
open Go.ChangeShapes Go.WideShapes Go.ChangeAt Go.RowKit

theorem sum_d (A : Option Addr) (n c : Nat) (l : List UInt8) (B : Nat) (w : World) (hn : l.length = n) (h : Bs w B A l) (hl : n ≤ 16777216) (hlc : n ≤ c) (hc : c ≤ maxLen) :
    Calls Try.prog 9 #[.slice A n c] w fun e w' => e = .returned (.int .u16 (fo (tot l))) ∧ ∃ n, w' = w.drewN n := by
  subst hn
  exact csum A c l B w h hl hlc hc

theorem one_stored {w : World} {base g n c : Nat} {l : List UInt8} (h : w.ownsRow base 5 1 (.slice (some ⟨g, 0, none⟩) n c) n (l.map bv)) (i : Nat) (a : UInt8) (z : Int) (ha : (a.toNat : Int) = z) :
    (w.setCell ⟨g, i, none⟩ (.int .u8 z)).ownsRow base 5 1 (.slice (some ⟨g, 0, none⟩) n c) n ((l.set i a).map bv) := by
  subst ha
  rw [List.map_set]
  exact (h.stored i (bv a)).1

set_option maxRecDepth 100000 in
set_option maxHeartbeats 2000000 in
theorem stands_ (A : Option Addr) (cp : Nat) (l : List UInt8) (at_ bad x : Int) (hx0 : 0 ≤ x) (hx1 : x ≤ 255)
    (w : World) (hb : Bs w w.heap.size A l) (hlc : l.length ≤ cp) (hcm : cp ≤ 9223372036854775807) (hnil : A = none → cp = 0) :
    Calls Try.prog 5 #[.slice A l.length cp, .int .i64 at_, .int .i64 bad, .int .u8 x] w fun e w' => e = .returned (.bool true) ∧ Below w.heap.size w w' := by
  obtain ⟨i0, hi, hz0, hz1, hz2⟩ := info_parts info5
  have HN := Go.Lib.hid hnil
  obtain ⟨L, n, hbL, hn, h3, hncp, hc⟩ := first3 hb cp hlc
  have HNL := Go.Lib.hid hn
  have le1 := Nat.le_of_eq hn
  have le2 := Nat.le_of_eq hn.symm
  clear hnil hn hb
  generalize l.length = m at *
  rcases hc with rfl | ⟨rfl, hm3⟩
  all_goals
    by_cases hat : at_ < 0
    · go_enter Try.func5, Try.ntmps5
      go_wp2_with fail
      refine (awake _).mono ?_
      rintro e w1 ⟨rfl, hb1⟩
      have hr1 := (hbL.below hb1).rd
      go_wp2_with (at_builtin; refine wpList_copy_rd rfl _ _ 22 rfl 5 i0 (.int .u8 0) 1 Try.underlying22 hi hz0 hz1 hz2 rfl rfl w.heap.size A _ cp (L.map bv) rfl (by simpa using HNL.out) HN.out hr1 hb1.size (bv_one _) (by unfold maxLen; omega) (by omega) ?_; intro v2 w2 hown2 hb2)
      go_ret
      exact ⟨rfl, hb1.trans (hb2.mono hb1.size)⟩
    · obtain ⟨k, rfl⟩ := Int.eq_ofNat_of_zero_le (Int.not_lt.1 hat)
      by_cases hk : (L.length : Int) / 2 ≤ k
      · go_enter Try.func5, Try.ntmps5
        go_wp2_with fail
        refine (awake _).mono ?_
        rintro e w1 ⟨rfl, hb1⟩
        have hr1 := (hbL.below hb1).rd
        go_wp2_with (at_builtin; refine wpList_copy_rd rfl _ _ 22 rfl 5 i0 (.int .u8 0) 1 Try.underlying22 hi hz0 hz1 hz2 rfl rfl w.heap.size A _ cp (L.map bv) rfl (by simpa using HNL.out) HN.out hr1 hb1.size (bv_one _) (by unfold maxLen; omega) (by omega) ?_; intro v2 w2 hown2 hb2; obtain ⟨A2, c2, rfl, hc2⟩ := rd_of_own hown2)
        go_ret
        exact ⟨rfl, hb1.trans (hb2.mono hb1.size)⟩
      · have hk2 : 2 * k + 1 < L.length := by omega
        go_enter Try.func5, Try.ntmps5
        go_wp2_with fail
        refine (awake _).mono ?_
        rintro e w1 ⟨rfl, hb1⟩
        have hr1 := (hbL.below hb1).rd
        go_wp2_with (first
          | (at_builtin; refine wpList_copy_rd rfl _ _ 22 rfl 5 i0 (.int .u8 0) 1 Try.underlying22 hi hz0 hz1 hz2 rfl rfl w.heap.size A _ cp (L.map bv) rfl (by simpa using HNL.out) HN.out hr1 hb1.size (bv_one _) (by unfold maxLen; omega) (by omega) ?_; intro v2 w2 hown2 hb2; obtain ⟨g, c2, rfl, hg1, hg2, hnc, hcm2⟩ := own_form hown2 (by omega)
             have hc0 := own_cell hown2 (2 * k) (by simp; omega); have hc1 := own_cell hown2 (2 * k + 1) (by simp; omega)
             have hf0 := hown2.frozenAt (2 * k); have hf1 := hown2.frozenAt (2 * k + 1)
             have HO := Go.Lib.hid hown2; clear hown2))
        have own3 := one_stored (one_stored HO.out (2 * k) 0 0 rfl) (2 * k + 1) 0 0 rfl
        have bel3 : Below w.heap.size w ((w2.setCell ⟨g, 2 * k, none⟩ (.int .u8 0)).setCell ⟨g, 2 * k + 1, none⟩ (.int .u8 0)) :=
          (((hb1.trans (hb2.mono hb1.size)).setCell (p := ⟨g, 2 * k, none⟩) (Nat.le_trans hb1.size hg1) _).setCell (p := ⟨g, 2 * k + 1, none⟩) (Nat.le_trans hb1.size hg1) _)
        generalize ((w2.setCell ⟨g, 2 * k, none⟩ (.int .u8 0)).setCell ⟨g, 2 * k + 1, none⟩ (.int .u8 0)) = w3 at own3 bel3 ⊢
        clear hc0 hc1 hf0 hf1 hr1 HO hb2
        have hg0 := Nat.le_trans hb1.size hg1
        obtain ⟨l1, e1⟩ : ∃ l1, l1 = (L.set (2 * k) 0).set (2 * k + 1) 0 := ⟨_, rfl⟩
        have HST := Go.Lib.hid (stand_words L l1 k hk2 e1)
        have HL1 : Hid (l1.length = L.length) := by show _ = _; rw [e1]; simp
        rw [← e1] at own3
        clear e1
        have hr3 := (rd_of_own' own3).bs
        have f1 := fo_lo (tot l1)
        have f2 := fo_hi (tot l1)
        refine (of_d _ _ c2 l1 _ _ (HL1.out.trans HNL.out) hr3 (by omega) hnc hcm2).mono ?_
        rintro e w' ⟨rfl, m2, rfl⟩
        have hc0 := own_cell own3 (2 * k) (by simp [HL1.out]; omega)
        have hc1 := own_cell own3 (2 * k + 1) (by simp [HL1.out]; omega)
        have hf0 := own3.frozenAt (2 * k)
        have hf1 := own3.frozenAt (2 * k + 1)
        have HO3 := Go.Lib.hid own3
        clear own3
        obtain ⟨c, hc⟩ : ∃ c, 65535 - fo (tot l1) = c := ⟨_, rfl⟩
        rw [hc]
        have b0 : 0 ≤ c := by omega
        have b1 : c ≤ 65535 := by omega
        rw [hc] at HST
        clear hc
        go_wp2_with fail
        have own4 := one_stored (one_stored (w := w3.drewN m2) HO3.out (2 * k) (b8 (c / 256)) (c / 256) (b8_is _ (by omega) (by omega))) (2 * k + 1) (b8 (c % 256)) (c % 256) (b8_is _ (by omega) (by omega))
        have bel4 : Below w.heap.size w (((w3.drewN m2).setCell ⟨g, 2 * k, none⟩ (.int .u8 (c / 256))).setCell ⟨g, 2 * k + 1, none⟩ (.int .u8 (c % 256))) :=
          (((below_dn bel3 m2).setCell (p := ⟨g, 2 * k, none⟩) hg0 _).setCell (p := ⟨g, 2 * k + 1, none⟩) hg0 _)
        generalize (((w3.drewN m2).setCell ⟨g, 2 * k, none⟩ (.int .u8 (c / 256))).setCell ⟨g, 2 * k + 1, none⟩ (.int .u8 (c % 256))) = w4 at own4 bel4 ⊢
        clear hc0 hc1 hf0 hf1 HO3 hr3 bel3
        have HL2 : Hid (((l1.set (2 * k) (b8 (c / 256))).set (2 * k + 1) (b8 (c % 256))).length = L.length) := by show _ = _; simp [HL1.out]
        generalize ((l1.set (2 * k) (b8 (c / 256))).set (2 * k + 1) (b8 (c % 256))) = l2 at own4 HST HL2
        have hr4 := (rd_of_own' own4).bs
        refine (sum_d _ _ c2 l2 _ _ (HL2.out.trans HNL.out) hr4 (by omega) hnc hcm2).mono ?_
        rintro e w' ⟨rfl, m4, rfl⟩
        rw [HST.out]
        by_cases hx : x = 0
        · have hxb : (x == 0) = true := by rw [hx]; rfl
          clear hx
          by_cases hbad : bad < 0
          · clear own4
            go_wp2
            go_ret
            exact ⟨rfl, below_dn bel4 _⟩
          · clear own4
            go_wp2
            all_goals
              go_ret
              exact ⟨rfl, below_dn bel4 _⟩
        · have hxb : (x == 0) = false := beq_eq_false_iff_ne.2 hx
          by_cases hbad : bad < 0
          · clear own4
            go_wp2
            go_ret
            exact ⟨rfl, below_dn bel4 _⟩
          · obtain ⟨j, rfl⟩ := Int.eq_ofNat_of_zero_le (Int.not_lt.1 hbad)
            by_cases hjn : L.length ≤ j
            · clear own4
              go_wp2
              go_ret
              exact ⟨rfl, below_dn bel4 _⟩
            · have hjl : j < l2.length := by rw [HL2.out]; omega
              have hcj : w4.cell? ⟨g, j, none⟩ = some (.int .u8 (l2[j].toNat : Int)) := by rw [own_cell own4 j (by simpa using hjl)]; simp [bv]
              have hfj := own4.frozenAt j
              have hxo := xor_walk l2[j] x hx0 hx1
              have HS := Go.Lib.hid (seen l2 j (l2[j] ^^^ b8 x) hjl (xor_other _ x hx hx0 hx1) HST.out)
              generalize (l2[j] ^^^ b8 x) = q at hxo HS
              have HO4 := Go.Lib.hid own4
              have hlj := l2[j].toNat_lt
              clear own4 hx
              go_wp2_with fail
              have own5 := one_stored (w := w4.drewN m4) HO4.out j q _ rfl
              have bel5 : Below w.heap.size w ((w4.drewN m4).setCell ⟨g, j, none⟩ (.int .u8 (q.toNat : Int))) := (below_dn bel4 m4).setCell (p := ⟨g, j, none⟩) hg0 _
              generalize ((w4.drewN m4).setCell ⟨g, j, none⟩ (.int .u8 (q.toNat : Int))) = w5 at own5 bel5 ⊢
              clear hcj hfj HO4 hr4 hxo
              have HL3 : Hid ((l2.set j q).length = L.length) := by show _ = _; simp [HL2.out]
              generalize (l2.set j q) = l3 at own5 HS HL3
              have hr5 := (rd_of_own' own5).bs
              clear own5
              have hne : (fo (tot l3) != 65535) = true := by rw [bne_iff_ne]; exact HS.out
              refine (sum_d _ _ c2 l3 _ _ (HL3.out.trans HNL.out) hr5 (by omega) hnc hcm2).mono ?_
              rintro e w' ⟨rfl, m5, rfl⟩
              go_wp2
              go_ret
              exact ⟨rfl, below_dn bel5 _⟩
end Go.Proofs.Ytbbomonlkmgpeaa
