/- CsumOrder, walked: it returns true, whatever it is given; memory that was there is as it was. -/
import Derived.Deep.QuietTactic
import Derived.BigQuiet
import Derived.Test.YtbbomonlkmgpeaaLaws2
namespace Go.Proofs.Ytbbomonlkmgpeaa
open Go.ChangeShapes Go.WideShapes Go.ChangeAt Go.RowKit

theorem tot_append : ∀ (p q : List UInt8), p.length % 2 = 0 → tot (p ++ q) = tot p + tot q
  | [], q, _ => by simp [tot]
  | [a], q, h => by simp at h
  | a :: b :: r, q, h => by
    have := tot_append r q (by simp at h; omega)
    simp only [List.cons_append, tot, this]; omega

set_option maxRecDepth 100000 in
set_option maxHeartbeats 2000000 in
theorem order (A B : Option Addr) (ca cb : Nat) (la lb : List UInt8)
    (w : World) (ha : Bs w w.heap.size A la) (hac : la.length ≤ ca) (hca : ca ≤ 9223372036854775807) (hna : A = none → ca = 0)
    (hb : Bs w w.heap.size B lb) (hbc : lb.length ≤ cb) (hcb : cb ≤ 9223372036854775807) (hnb : B = none → cb = 0) :
    Calls Try.prog 6 #[.slice A la.length ca, .slice B lb.length cb] w fun e w' => e = .returned (.bool true) ∧ Below w.heap.size w w' := by
  obtain ⟨i0, hi, hz0, hz1, hz2⟩ := info_parts info5
  have HNA := Go.Lib.hid hna
  have HNB := Go.Lib.hid hnb
  obtain ⟨L, n, hbL, hn, h3, hncp, hc⟩ := first3 ha ca hac
  obtain ⟨M, m, hbM, hm, h3', hmcp, hc'⟩ := first3 hb cb hbc
  have HL := Go.Lib.hid hn
  have HM := Go.Lib.hid hm
  clear hna hnb hn hm ha hb
  obtain ⟨k, hk⟩ : ∃ k, k = n / 2 * 2 := ⟨_, rfl⟩
  obtain ⟨j, hj⟩ : ∃ j, j = m / 2 * 2 := ⟨_, rfl⟩
  have hlA : ((L.take k).length = k) := by rw [List.length_take, HL.out]; omega
  have hlB : ((M.take j).length = j) := by rw [List.length_take, HM.out]; omega
  have hbL2 := hbL.take k
  have hbM2 := hbM.take j
  have HEA : Hid (k % 2 = 0) := by show _ = _; omega
  have HEB : Hid (j % 2 = 0) := by show _ = _; omega
  generalize L.take k = P at hlA hbL2
  generalize M.take j = Q at hlB hbM2
  have kb : k ≤ n := by omega
  have jb : j ≤ m := by omega
  have HLA := Go.Lib.hid hlA
  have HLB := Go.Lib.hid hlB
  have HK := Go.Lib.hid hk
  have HJ := Go.Lib.hid hj
  clear hlA hlB hk hj hbL hbM HL HM
  generalize la.length = xa at *
  generalize lb.length = xb at *
  have HAB : Hid (tot (P ++ Q) = tot P + tot Q) := tot_append P Q (by rw [HLA.out]; exact HEA.out)
  have HBA : Hid (tot (Q ++ P) = tot Q + tot P) := tot_append Q P (by rw [HLB.out]; exact HEB.out)
  have tp := tot_lo P
  have tq := tot_lo Q
  have fp := fo_lo (tot P)
  have fp' := fo_hi (tot P)
  have fq := fo_lo (tot Q)
  have fq' := fo_hi (tot Q)
  have HT1 : Hid (fo (tot (P ++ Q)) = fo (tot P + tot Q)) := by show _ = _; rw [HAB.out]
  have HT2 : Hid (fo (tot (Q ++ P)) = fo (tot P + tot Q)) := by show _ = _; rw [HBA.out, Int.add_comm]
  have HT3 : Hid (fo (fo (tot P) + fo (tot Q)) = fo (tot P + tot Q)) := by show _ = _; rw [fo_fo _ _ tp fq, fo_fo' _ _ tp tq]
  generalize fo (tot P + tot Q) = s at HT1 HT2 HT3
  rcases hc with rfl | ⟨rfl, hx3⟩ <;> rcases hc' with rfl | ⟨rfl, hx3'⟩
  all_goals
    go_enter Try.func6, Try.ntmps6
    go_wp2_with fail
    refine (awake _).mono ?_
    rintro e w1 ⟨rfl, hb1⟩
    go_wp2
    go_quiet (fail)
    rename Nat => q1
    go_wp2
    go_quiet (fail)
    have hbd := below_dn (below_dn hb1 q1) nq
    generalize (w1.drewN q1).drewN nq = w1 at hbd ⊢
    have hb1 := hbd
    have hA := (hbL2.below hb1).rd
    have hB := (hbM2.below hb1).rd
    go_wp2_with (first
      | (at_builtin; refine wpList_copy_rd rfl _ _ 22 rfl 5 i0 (.int .u8 0) 1 Try.underlying22 hi hz0 hz1 hz2 rfl rfl w.heap.size A _ ca (P.map bv) rfl (by rw [List.length_map, HLA.out]; have := HK.out; omega) HNA.out hA hb1.size (bv_one _) (by unfold maxLen; omega) (by omega) ?_; intro v2 w2 hown2 hb2; have hB2 := hB.below (hb2.mono hb1.size))
      | (at_builtin; refine wpList_append_rd rfl _ _ 22 rfl _ 5 i0 (.int .u8 0) 1 Try.underlying22 hi hz0 hz1 hz2 rfl v2 _ _ rfl hown2 w.heap.size B _ cb _ rfl (by rw [List.length_map, HLB.out]; have := HJ.out; omega) HNB.out hB2 (bv_one _) (by unfold maxLen; omega) (by omega) hb2.size ?_; intro v3 w3 hown3 hg3 hat3
         have hb3 := (hb1.trans (hb2.mono hb1.size)).grown hg3 (Nat.le_trans hb1.size hb2.size) (fun q hq => Nat.le_trans hb1.size (hown2.lt q hq).1)
         obtain ⟨A3, c3, rfl, hn3, hc3, hz3, hr3⟩ := rd_of_own hown3; clear hat3 hown3 hg3 hown2 hA hB hB2
         have hA := (hbL2.below hb3).rd; have hB := (hbM2.below hb3).rd)
      | (at_builtin; refine wpList_copy_rd rfl _ _ 22 rfl 5 i0 (.int .u8 0) 1 Try.underlying22 hi hz0 hz1 hz2 rfl rfl w.heap.size B _ cb (Q.map bv) rfl (by rw [List.length_map, HLB.out]; have := HJ.out; omega) HNB.out hB hb3.size (bv_one _) (by unfold maxLen; omega) (by omega) ?_; intro v4 w4 hown4 hb4; have hA4 := hA.below (hb4.mono hb3.size))
      | (at_builtin; refine wpList_append_rd rfl _ _ 22 rfl _ 5 i0 (.int .u8 0) 1 Try.underlying22 hi hz0 hz1 hz2 rfl v4 _ _ rfl hown4 w.heap.size A _ ca _ rfl (by rw [List.length_map, HLA.out]; have := HK.out; omega) HNA.out hA4 (bv_one _) (by unfold maxLen; omega) (by omega) hb4.size ?_; intro v5 w5 hown5 hg5 hat5
         have hb5 := (hb3.trans (hb4.mono hb3.size)).grown hg5 (Nat.le_trans hb3.size hb4.size) (fun q hq => Nat.le_trans hb3.size (hown4.lt q hq).1)
         have hr35 := (hr3.below hb4).below ((Below.refl w3.heap.size w4).grown hg5 hb4.size (fun q hq => (hown4.lt q hq).1))
         obtain ⟨A5, c5, rfl, hn5, hc5, hz5, hr5⟩ := rd_of_own hown5; clear hat5 hown5 hg5 hown4 hA hB hA4))
    have hs1 : Bs w5 w3.heap.size A3 (P ++ Q) := Rd.bs (by rw [List.map_append]; exact hr35)
    have hs2 : Bs w5 w5.heap.size A5 (Q ++ P) := Rd.bs (by rw [List.map_append]; exact hr5)
    have hsA := hbL2.below hb5
    have hsB := hbM2.below hb5
    clear hr35 hr5 hr3 hbL2 hbM2 hb4 hb3 hb2 hbd hb1
    refine (sum_d A3 _ c3 (P ++ Q) _ _ (by rw [List.length_append, HLA.out, HLB.out]; have := HK.out; have := HJ.out; omega) hs1 (by omega) hn3 hc3).mono ?_
    rintro e w' ⟨rfl, r1, rfl⟩
    rw [HT1.out]
    go_wp2_with fail
    refine (sum_d A5 _ c5 (Q ++ P) _ _ (by rw [List.length_append, HLA.out, HLB.out]; have := HK.out; have := HJ.out; omega) (hs2.drewN _) (by omega) hn5 hc5).mono ?_
    rintro e w' ⟨rfl, r2, rfl⟩
    rw [HT2.out]
    go_wp2_with fail
    refine (sum_d A3 _ c3 (P ++ Q) _ _ (by rw [List.length_append, HLA.out, HLB.out]; have := HK.out; have := HJ.out; omega) (hs1.drewN _) (by omega) hn3 hc3).mono ?_
    rintro e w' ⟨rfl, r3, rfl⟩
    rw [HT1.out]
    go_wp2_with fail
    refine (sum_d A _ ca P _ _ (by rw [HLA.out]; have := HK.out; omega) (hsA.drewN _) (by omega) (by omega) hca).mono ?_
    rintro e w' ⟨rfl, r4, rfl⟩
    go_wp2_with fail
    refine (sum_d B _ cb Q _ _ (by rw [HLB.out]; have := HJ.out; omega) (hsB.drewN _) (by omega) (by omega) hcb).mono ?_
    rintro e w' ⟨rfl, r5, rfl⟩
    go_wp2_with fail
    refine (cjoin _ _ ⟨fp, fp'⟩ ⟨fq, fq'⟩ _).mono ?_
    rintro e w' ⟨rfl, rfl⟩
    rw [HT3.out]
    go_wp2
    go_ret
    exact ⟨rfl, below_dn hb5 _⟩
end Go.Proofs.Ytbbomonlkmgpeaa
