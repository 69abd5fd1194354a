/- Statements of layer 5, walked: what is put is parsed as it was; what is parsed is put as it was. -/
import Derived.Deep.DeepCutAuto
import Derived.Deep.CutBlock
import Derived.Test.YthikllbfkagdnaaUdpL2
import Derived.Test.YthikllbfkagdnaaSame
namespace Go.Proofs.Ythikllbfkagdnaa
open Go.ChangeShapes Go.WideShapes Go.ChangeAt Go.RowKit
set_option linter.unusedVariables false
set_option linter.unusedSimpArgs false

/-- the first 3000 bytes of a slice, or all. -/
theorem ufirst3k {w : World} {B : Nat} {A : Option Addr} {l : List UInt8} (hb : Bs w B A l) (cp : Nat) (hlc : l.length ≤ cp) :
    ∃ (L : List UInt8) (n : Nat), Bs w B A L ∧ L.length = n ∧ n ≤ 3000 ∧ n ≤ cp ∧ (n = l.length ∨ n = 3000 ∧ 3000 < l.length) := by
  by_cases h : l.length ≤ 3000
  · exact ⟨l, _, hb, rfl, h, hlc, .inl rfl⟩
  · exact ⟨l.take 3000, 3000, hb.take 3000, by rw [List.length_take]; omega, by omega, by omega, .inr ⟨rfl, by omega⟩⟩
theorem usame_one (u : Ud) (Ab : Option Addr) (cb : Nat) (Ab' : Option Addr) (cb' : Nat) (w : World) (h : UdIn w w.heap.size u Ab cb) (h' : UdIn w w.heap.size u Ab' cb') :
    Calls Try.prog 12 #[udV u Ab cb, udV u Ab' cb'] w fun e w' => e = .returned (.bool true) ∧ Below w.heap.size w w' := by
  have := usameU u Ab cb u Ab' cb' w.heap.size w (Nat.le_refl _) h.bs h'.bs
  rwa [(sameU_iff u u).2 rfl] at this

set_option maxRecDepth 100000 in
set_option maxHeartbeats 8000000 in
theorem backU (src dst : Int) (u : Ud) (Ab : Option Addr) (cb : Nat) (A : Option Addr) (cp : Nat) (l : List UInt8) (hs : 0 ≤ src ∧ src ≤ 4294967295) (hd : 0 ≤ dst ∧ dst ≤ 4294967295) (w : World) (h : UdIn w w.heap.size u Ab cb) (hb : Bs w w.heap.size A l) (hlc : l.length ≤ cp) (hcm : cp ≤ 9223372036854775807) (hnil : A = none → cp = 0) :
    Calls Try.prog 5 #[.int .u32 src, .int .u32 dst, udV u Ab cb, .slice A l.length cp] w fun e w' => e = .returned (.bool true) ∧ Below w.heap.size w w' := by
  obtain ⟨i0, hi, hz0, hz1, hz2⟩ := info_parts info_byte
  obtain ⟨L, n, hbL, hn, h3, hncp, hc⟩ := ufirst3k hb cp hlc
  have HI := Go.Lib.hid h
  have bl := h.blen
  have bc := h.bcap
  have HN := Go.Lib.hid hn
  have HB := Go.Lib.hid hbL
  have HX := Go.Lib.hid hnil
  clear hn hb hbL h hnil
  generalize l.length = m at *
  rcases hc with rfl | ⟨rfl, hm3⟩
  all_goals
    go_enter Try.func5, Try.ntmps5
    go_wp2_with fail
    refine (awakeU _).mono ?_
    rintro e w1 ⟨rfl, hb1⟩
    dsimp only
    have x1 := (Bx.start (u := u) (Ab := Ab) (cb := cb) (w := w)).call hb1
    clear hb1
    obtain ⟨c0, c1, c2, c3⟩ := x1.cells
    by_cases hu3 : (3000 : Int) < (u.body.length : Int)
    · go_wp2
      go_ret
      exact ⟨rfl, x1.below⟩
    have hul : u.body.length ≤ 3000 := by omega
    go_wp2_with fail
    refine (uparse src dst A _ cp L w1 hs hd HN.out ((HB.out.below x1.below).more x1.below.size) (by omega) (by omega) hcm).mono ?_
    rintro e w2 ⟨Ab', cb', rfl, hg⟩
    dsimp only
    have x2 := x1.call hg.below
    have HG := Go.Lib.hid hg.is
    have HOK : Hid ((prsU src dst L).1 = 0 → MayU (prsU src dst L).2 ∧ (putU src dst (prsU src dst L).2).length ≤ L.length) := Go.Lib.hid (prsU_ok src dst L)
    have HBK : Hid ((prsU src dst L).1 = 0 → putU src dst (prsU src dst L).2 = L.take (putU src dst (prsU src dst L).2).length) := Go.Lib.hid (prsU_back src dst hs.1 hd.1 L)
    clear x1 hg c0 c1 c2 c3
    generalize (prsU src dst L).2 = q at *
    generalize (prsU src dst L).1 = f at *
    go_upto_if 36 with fail
    go_cut [] (fun wx => Bx u Ab cb w wx)
    case first =>
      have y1 : Below w2.heap.size w2 (w2.alloc (.cells #[.int .i64 q.sport, .int .i64 q.dport, .bool q.nosum, .slice Ab' q.body.length cb'] 25)) := (Below.refl _ _).alloc (Nat.le_refl _) _
      have x3 := x2.call y1
      have G3 := Go.Lib.hid (HG.out.at y1)
      have m3 := udIs.made (w := w2) (u := q) (A_body := Ab') (c_body := cb')
      have z3 : w2.heap.size < (w2.alloc (.cells #[.int .i64 q.sport, .int .i64 q.dport, .bool q.nosum, .slice Ab' q.body.length cb'] 25)).heap.size := by simp
      clear y1 x2 HG
      generalize w2.alloc (.cells #[.int .i64 q.sport, .int .i64 q.dport, .bool q.nosum, .slice Ab' q.body.length cb'] 25) = w3 at *
      generalize w2.heap.size = bq at *
      by_cases hf : f = 0
      · have tf : (f == 0) = true := by simpa using hf
        obtain ⟨M, hle⟩ := HOK.out hf
        have hbk := HBK.out hf
        obtain ⟨N, hN⟩ : ∃ N : Nat, N = 8 + q.body.length := ⟨_, rfl⟩
        rw [putU_length, ← hN] at hle hbk
        have hle2 : N ≤ L.length := hle
        have P1 := hle
        rw [HN.out] at P1
        have HNN := Go.Lib.hid hN
        have HMM := Go.Lib.hid M
        have HEQ : Hid ((putU src dst q == L.take N) = true) := Go.Lib.hid (by simpa using hbk)
        have L1 : Hid ((putU src dst q).length = N) := Go.Lib.hid (by rw [putU_length, hN])
        have L2 : Hid ((L.take N).length = N) := Go.Lib.hid (by rw [List.length_take]; omega)
        have hN3 : N ≤ 3000 := by omega
        have i4 : (N : Int) ≤ (cp : Int) := by omega
        have i5 : (0 : Int) ≤ (N : Int) := by omega
        clear hN hf M hle hbk HOK HBK
        obtain ⟨c0, c1, c2, c3⟩ := m3.cells
        go_wp2_with fail
        refine (uputYes src dst q Ab' cb' w3 HMM.out hs hd G3.out N HNN.out).mono ?_
        rintro e w4 ⟨g, c, rfl, hown, hb4⟩
        dsimp only
        have x4 := x3.call hb4
        have hcap := hown.cap
        unfold maxLen at hcap
        obtain ⟨hcc1, hcc2⟩ := hcap
        have HBc := Go.Lib.hid hown.bs
        have HBA : Hid (Bs w4 w.heap.size A (L.take N)) := Go.Lib.hid ((HB.out.below x4.below).take N)
        have t6 : decide ((3000 : Int) < (N : Int)) = false := by simp; omega
        have t7 := decide_eq_false (show ¬ _ < N from Nat.not_lt.2 P1)
        clear hown hb4 x3 G3 m3 z3 c0 c1 c2 c3 hle2
        go_wp2_with fail
        refine (rsame (some ⟨g, 0, none⟩) N c (putU src dst q) A N cp (L.take N) w4.heap.size w.heap.size _ L1.out L2.out HBc.out HBA.out (by omega) (by omega)).mono ?_
        rw [HEQ.out]
        rintro e w5 ⟨rfl, m5, rfl⟩
        dsimp only
        go_wp2
        go_meet
        exact x4.call (below_dn (Below.refl _ _) m5)
      · have tf : (f == 0) = false := by simpa using hf
        clear hf HOK HBK m3
        go_wp2_with fail
        go_meet
        exact x3
    case rest =>
      have x3 : Bx u Ab cb w wc := hcut
      clear x2 hcut HOK HBK HG
      obtain ⟨c0, c1, c2, c3⟩ := x3.cells
      by_cases hM : mayU u = true
      · have M := (mayU_iff u).1 hM
        have HM := Go.Lib.hid M
        obtain ⟨N, hN⟩ : ∃ N : Nat, N = 8 + u.body.length := ⟨_, rfl⟩
        have HNN := Go.Lib.hid hN
        have hN3 : N ≤ 3008 := by omega
        have hN0 : 0 < N := by omega
        clear hM hN M
        go_wp2_with fail
        refine (uputYes src dst u Ab cb _ HM.out hs hd (HI.out.at x3.below) N HNN.out).mono ?_
        rintro e w5 ⟨g, c, rfl, hown, hb5⟩
        dsimp only
        have x5 := x3.call hb5
        have hcap := hown.cap
        unfold maxLen at hcap
        obtain ⟨hcc1, hcc2⟩ := hcap
        have hP : Hid (((putU src dst u).map bv).length = N) := Go.Lib.hid (by rw [List.length_map, putU_length, HNN.out])
        have hbs := hown.bs.rd
        have hA := (HB.out.below x5.below).rd
        have hLn := HN.out
        have HLn := Go.Lib.hid hLn
        clear hb5 x3 c0 c1 c2 c3 hown hLn
        go_wp2_with (first
          | (at_builtin; refine wpList_copy_rd rfl _ _ 23 rfl 5 i0 (.int .u8 0) 1 Try.underlying23 hi hz0 hz1 hz2 rfl rfl w5.heap.size (some ⟨g, 0, none⟩) N c ((putU src dst u).map bv) rfl hP.out (fun h => by cases h) hbs (Nat.le_refl _) (bv_one _) (by unfold maxLen; omega) (by omega) ?_; intro v6 w6 hown6 hb6)
          | (at_builtin; refine wpList_append_rd rfl _ _ 23 rfl _ 5 i0 (.int .u8 0) 1 Try.underlying23 hi hz0 hz1 hz2 rfl v6 _ _ rfl hown6 w.heap.size A _ cp (L.map bv) rfl (by rw [List.length_map, HLn.out]) HX.out (hA.below (hb6.mono x5.below.size)) (bv_one _) (by unfold maxLen; omega) (by omega) hb6.size ?_; intro v7 w7 hown7 hg7 hat7))
        have x6 := x5.call hb6
        have x7 : Bx u Ab cb w w7 := x6.step (Below.grown (Below.refl _ _) hg7 x6.size (fun k hk => Nat.le_trans x5.size (hown6.lt k hk).1))
        obtain ⟨A7, c7, rfl, hn7, hc7, hz7, hr7⟩ := rd_of_own hown7
        have hs7 : Bs w7 w7.heap.size A7 (putU src dst u ++ L) := Rd.bs (by rw [List.map_append]; exact hr7)
        unfold maxLen at hc7
        clear hat7 hg7 hown7 hown6 hb6 hA hbs x5 x6 hr7 hz7
        refine (uparse src dst A7 _ c7 (putU src dst u ++ L) w7 hs hd (by rw [List.length_append, putU_length, ← HNN.out, HLn.out]) hs7 (by omega) hn7 (by omega)).mono ?_
        rintro e w8 ⟨Ab2, cb2, rfl, hg8⟩
        rw [prs_putU src dst u L HM.out] at hg8
        rw [prs_putU src dst u L HM.out]
        dsimp only at hg8
        dsimp only
        have x8 := x7.call hg8.below
        have H8 := Go.Lib.hid hg8.is
        clear hg8 x7 hs7
        go_upto_region 15 with fail
        have y9 : Below w8.heap.size w8 (w8.alloc (.cells #[.int .i64 u.sport, .int .i64 u.dport, .bool u.nosum, .slice Ab2 u.body.length cb2] 25)) := (Below.refl _ _).alloc (Nat.le_refl _) _
        have x9 := x8.call y9
        have H9 := Go.Lib.hid (H8.out.at y9)
        have k9 := udIs.made (w := w8) (u := u) (A_body := Ab2) (c_body := cb2)
        clear y9 x8 H8
        generalize w8.alloc (.cells #[.int .i64 u.sport, .int .i64 u.dport, .bool u.nosum, .slice Ab2 u.body.length cb2] 25) = w9 at *
        generalize w8.heap.size = br at *
        obtain ⟨c0, c1, c2, c3⟩ := x9.cells
        obtain ⟨d0, d1, d2, d3⟩ := k9.cells
        clear k9
        go_wp2_with fail
        refine (usame_one u Ab cb Ab2 cb2 w9 (HI.out.at x9.below) H9.out).mono ?_
        rintro e w10 ⟨rfl, b10⟩
        dsimp only
        go_wp2
        go_ret
        exact ⟨rfl, (x9.call b10).below⟩
      · have hM' : mayU u = false := by simpa using hM
        clear hM
        go_wp2_with fail
        refine (uputNo src dst u Ab cb _ hM' (by omega)).mono ?_
        rintro e w5 ⟨rfl, hb5⟩
        dsimp only
        have x5 := x3.call hb5
        clear hb5 x3 c0 c1 c2 c3
        go_wp2
        go_ret
        exact ⟨rfl, x5.below⟩
end Go.Proofs.Ythikllbfkagdnaa
