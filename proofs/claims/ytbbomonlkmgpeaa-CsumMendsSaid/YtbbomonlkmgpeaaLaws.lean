/- The five statements of layer 2, walked: each law returns true, whatever it is given; memory that was there is as it was. -/
import Derived.Test.YtbbomonlkmgpeaaSet
namespace Go.Proofs.Ytbbomonlkmgpeaa
open Go.ChangeShapes Go.WideShapes Go.ChangeAt Go.RowKit

theorem four_reads (w : World) : Bs (w.alloc (.cells #[.int .u8 0, .int .u8 1, .int .u8 242, .int .u8 3] 5)) (w.heap.size + 1) (some ⟨w.heap.size, 0, none⟩) [0, 1, 242, 3] := by
  refine .inr ⟨_, rfl, by simp, fun j b hj => ?_⟩
  match j, hj with
  | 0, hj => simp at hj; subst hj; simp [Addr.add]
  | 1, hj => simp at hj; subst hj; simp [Addr.add]
  | 2, hj => simp at hj; subst hj; simp [Addr.add]
  | 3, hj => simp at hj; subst hj; simp [Addr.add]


set_option maxHeartbeats 400000 in
theorem awake (w : World) :
    Calls Try.prog 8 #[] w fun e w' => e = .returned (.bool true) ∧ Below w.heap.size w w' := by
  have f1 : fo (tot [0, 1, 242, 3]) = 61956 := by decide
  have f2 : fo 65536 = 1 := by decide
  have f3 : mend 3579 1 2 = 3578 := by decide
  go_enter Try.func8, Try.ntmps8
  go_wp2_with (first
    | (go_at_call 11; refine (cof (some ⟨w.heap.size, 0, none⟩) 4 [0, 1, 242, 3] _ _ (four_reads w) (by decide) (by decide) (by decide)).mono ?_; rintro e w' ⟨rfl, n, rfl⟩)
    | (go_at_call 13; refine (cjoin 65535 1 (by omega) (by omega) _).mono ?_; rintro e w' ⟨rfl, rfl⟩)
    | (go_at_call 15; refine (cmend 3579 1 2 (by omega) (by omega) (by omega) _).mono ?_; rintro e w' ⟨rfl, rfl⟩))
  go_ret
  exact ⟨rfl, below_dn ((Below.refl _ _).alloc (Nat.le_refl _) _) _⟩

theorem fo_assoc (a b c : Int) (ha : 0 ≤ a) (hb : 0 ≤ b) (hc : 0 ≤ c) : fo (a + fo (b + c)) = fo (fo (a + b) + c) := by
  rw [fo_fo' _ _ ha (by omega), fo_fo _ _ (by omega) hc, Int.add_assoc]
theorem mend_mend (a o n : Int) (a0 : 0 ≤ a) (a1 : a ≤ 65535) (o0 : 0 ≤ o) (o1 : o ≤ 65535) (n0 : 0 ≤ n) (n1 : n ≤ 65535) :
    mend (mend a o n) n o = if a = 65535 then 0 else a := by
  have e : mend (mend a o n) n o = 65535 - fo (65535 - a + 131070) := by
    unfold mend
    rw [fo_fo (65535 - a + (65535 - o)) n (by omega) n0]
    have h1 := fo_lo (65535 - a + (65535 - o) + n)
    rw [show 65535 - (65535 - fo (65535 - a + (65535 - o) + n)) + (65535 - n) = fo (65535 - a + (65535 - o) + n) + (65535 - n) from by omega]
    rw [fo_fo _ _ (by omega) (by omega), Int.add_assoc (fo (65535 - a + (65535 - o) + n)), fo_fo _ _ (by omega) (by omega)]
    congr 2; omega
  rw [e]
  unfold fo
  split <;> split <;> omega

set_option maxHeartbeats 1000000 in
theorem joins (a b c o n : Int) (a0 : 0 ≤ a) (a1 : a ≤ 65535) (b0 : 0 ≤ b) (b1 : b ≤ 65535) (c0 : 0 ≤ c) (c1 : c ≤ 65535) (o0 : 0 ≤ o) (o1 : o ≤ 65535) (n0 : 0 ≤ n) (n1 : n ≤ 65535) (w : World) :
    Calls Try.prog 7 #[.int .u16 a, .int .u16 b, .int .u16 c, .int .u16 o, .int .u16 n] w fun e w' => e = .returned (.bool true) ∧ Below w.heap.size w w' := by
  have t1 : (fo (a + b) == fo (b + a)) = true := by rw [Int.add_comm]; simp
  have t1' : (fo (a + b) != fo (b + a)) = false := by rw [Int.add_comm]; simp
  have t2 : (fo (a + fo (b + c)) == fo (fo (a + b) + c)) = true := by rw [fo_assoc a b c a0 b0 c0]; simp
  have t2' : (fo (a + fo (b + c)) != fo (fo (a + b) + c)) = false := by rw [fo_assoc a b c a0 b0 c0]; simp
  have m1 := mend_lo a o n
  have m2 := mend_hi a o n
  have m3 := mend_lo (mend a o n) n o
  have m4 := mend_hi (mend a o n) n o
  have k1 : IntKind.u16.signed = false := rfl
  have k2 : IntKind.u16.max = 65535 := rfl
  have x1 := u16_not a a0 a1
  have x2 := u16_not _ m3 m4
  have u1 := fo_lo (a + b)
  have u2 := fo_hi (a + b)
  have u3 := fo_lo (b + c)
  have u4 := fo_hi (b + c)
  have hm := mend_mend a o n a0 a1 o0 o1 n0 n1
  by_cases h : a = 65535
  · have t3 : (fo (mend (mend a o n) n o + (65535 - a)) == 65535) = false := by rw [hm, if_pos h, h]; decide
    have t4 : (fo (a + (65535 - mend (mend a o n) n o)) == 65535) = true := by rw [hm, if_pos h, h]; decide
    have h' : 65535 ≤ a := by omega
    clear h hm
    go_enter Try.func7, Try.ntmps7
    go_wp2_with (first
      | (go_at_call 8; refine (awake _).mono ?_; rintro e w1 ⟨rfl, hbel⟩)
      | (go_at_call 13; refine (cjoin _ _ (by omega) (by omega) _).mono ?_; rintro e w' ⟨rfl, rfl⟩)
      | (go_at_call 15; refine (cmend _ _ _ (by omega) (by omega) (by omega) _).mono ?_; rintro e w' ⟨rfl, rfl⟩))
    go_ret
    exact ⟨rfl, hbel⟩
  · have t3 : (fo (mend (mend a o n) n o + (65535 - a)) == 65535) = true := by rw [hm, if_neg h, show a + (65535 - a) = 65535 from by omega]; decide
    clear h hm
    go_enter Try.func7, Try.ntmps7
    go_wp2_with (first
      | (go_at_call 8; refine (awake _).mono ?_; rintro e w1 ⟨rfl, hbel⟩)
      | (go_at_call 13; refine (cjoin _ _ (by omega) (by omega) _).mono ?_; rintro e w' ⟨rfl, rfl⟩)
      | (go_at_call 15; refine (cmend _ _ _ (by omega) (by omega) (by omega) _).mono ?_; rintro e w' ⟨rfl, rfl⟩))
    go_ret
    exact ⟨rfl, hbel⟩

theorem Bs.below {w w' : World} {B : Nat} {A : Option Addr} {l : List UInt8} (h : Bs w B A l) (hb : Below B w w') : Bs w' B A l := by
  rcases h with h | ⟨ad, e, hlt, hc⟩
  · exact .inl h
  · exact .inr ⟨ad, e, hlt, fun j b hj => (hb.cell (by rw [block_add]; exact hlt)).trans (hc j b hj)⟩
theorem Bs.rd {w : World} {B : Nat} {A : Option Addr} {l : List UInt8} (h : Bs w B A l) : Rd w B A (l.map bv) := by
  rcases h with h | ⟨ad, e, hlt, hc⟩
  · exact .inl (by rw [h]; rfl)
  · refine .inr ⟨ad, e, hlt, fun j u hj => ?_⟩
    rw [List.getElem?_map, Option.map_eq_some_iff] at hj
    obtain ⟨b, hb, rfl⟩ := hj
    exact hc j b hb
theorem Rd.bs {w : World} {B : Nat} {A : Option Addr} {l : List UInt8} (h : Rd w B A (l.map bv)) : Bs w B A l := by
  rcases h with h | ⟨ad, e, hlt, hc⟩
  · exact .inl (by simpa using h)
  · exact .inr ⟨ad, e, hlt, fun j b hj => hc j _ (by rw [List.getElem?_map, hj]; rfl)⟩
theorem Bs.more {w : World} {B B' : Nat} {A : Option Addr} {l : List UInt8} (h : Bs w B A l) (hB : B ≤ B') : Bs w B' A l := by
  rcases h with h | ⟨ad, e, hlt, hc⟩
  · exact .inl h
  · exact .inr ⟨ad, e, by omega, hc⟩
theorem Bs.take {w : World} {B : Nat} {A : Option Addr} {l : List UInt8} (h : Bs w B A l) (k : Nat) : Bs w B A (l.take k) := by
  rcases h with h | ⟨ad, e, hlt, hc⟩
  · exact .inl (by rw [h]; simp)
  · exact .inr ⟨ad, e, hlt, fun j b hj => hc j b (by rw [List.getElem?_take] at hj; split at hj <;> simp_all)⟩
/-- the same contracts, the number of bytes under a name of its own, the world's frame as 'Below'. -/
theorem sum_n (A : Option Addr) (n c : Nat) (l : List UInt8) (B : Nat) (w : World) (hn : l.length = n) (h : Bs w B A l) (hl : n ≤ 16777216) (hlc : n ≤ c) (hc : c ≤ 9223372036854775807) :
    Calls Try.prog 9 #[.slice A n c] w fun e w' => e = .returned (.int .u16 (fo (tot l))) ∧ Below w.heap.size w w' := by
  subst hn
  exact (csum A c l B w h hl hlc (by unfold maxLen; omega)).mono fun e w' ⟨he, n, hw⟩ => ⟨he, hw ▸ below_dn (Below.refl _ _) n⟩
theorem of_n (A : Option Addr) (n c : Nat) (l : List UInt8) (B : Nat) (w : World) (hn : l.length = n) (h : Bs w B A l) (hl : n ≤ 16777216) (hlc : n ≤ c) (hc : c ≤ 9223372036854775807) :
    Calls Try.prog 11 #[.slice A n c] w fun e w' => e = .returned (.int .u16 (65535 - fo (tot l))) ∧ Below w.heap.size w w' := by
  subst hn
  exact (cof A c l B w h hl hlc (by unfold maxLen; omega)).mono fun e w' ⟨he, n, hw⟩ => ⟨he, hw ▸ below_dn (Below.refl _ _) n⟩
theorem of_d (A : Option Addr) (n c : Nat) (l : List UInt8) (B : Nat) (w : World) (hn : l.length = n) (h : Bs w B A l) (hl : n ≤ 16777216) (hlc : n ≤ c) (hc : c ≤ maxLen) :
    Calls Try.prog 11 #[.slice A n c] w fun e w' => e = .returned (.int .u16 (65535 - fo (tot l))) ∧ ∃ n, w' = w.drewN n := by
  subst hn
  exact cof A c l B w h hl hlc hc
theorem rsum_n (A : Option Addr) (n c : Nat) (l : List UInt8) (B : Nat) (w : World) (hn : l.length = n) (h : Bs w B A l) (hB : B ≤ w.heap.size) (hl : n ≤ 16777216) (hlc : n ≤ c) :
    Calls Try.prog 10 #[.slice A n c] w fun e w' => e = .returned (.int .u16 (fo (tot l))) ∧ Below w.heap.size w w' := by
  subst hn
  exact rsum A c l w (h.more hB) hl hlc
theorem rof_n (A : Option Addr) (n c : Nat) (l : List UInt8) (B : Nat) (w : World) (hn : l.length = n) (h : Bs w B A l) (hB : B ≤ w.heap.size) (hl : n ≤ 16777216) (hlc : n ≤ c) :
    Calls Try.prog 12 #[.slice A n c] w fun e w' => e = .returned (.int .u16 (65535 - fo (tot l))) ∧ Below w.heap.size w w' := by
  subst hn
  exact rof A c l w (h.more hB) hl hlc

theorem pseudo_lo (s d p z : Int) : 0 ≤ pseudo s d p z := fo_lo _
theorem pseudo_hi (s d p z : Int) : pseudo s d p z ≤ 65535 := fo_hi _

set_option maxHeartbeats 1000000 in
theorem right (A : Option Addr) (cp : Nat) (l : List UInt8) (x y z s d p q : Int) (hx : 0 ≤ x ∧ x ≤ 65535) (hy : 0 ≤ y ∧ y ≤ 65535) (hz : 0 ≤ z ∧ z ≤ 65535) (hs : 0 ≤ s ∧ s ≤ 4294967295) (hd : 0 ≤ d ∧ d ≤ 4294967295)
    (w : World) (hb : Bs w w.heap.size A l) (hlc : l.length ≤ cp) (hcm : cp ≤ 9223372036854775807) :
    Calls Try.prog 3 #[.slice A l.length cp, .int .u16 x, .int .u16 y, .int .u16 z, .int .u32 s, .int .u32 d, .int .i64 p, .int .i64 q] w fun e w' => e = .returned (.bool true) ∧ Below w.heap.size w w' := by
  by_cases h3 : l.length ≤ 3000
  · go_enter Try.func3, Try.ntmps3
    go_wp2_with (go_at_call 8; refine (awake _).mono ?_; rintro e w1 ⟨rfl, hb1⟩)
    all_goals try (exfalso; omega)
    refine (up (sum_n A l.length cp l _ _ rfl (hb.below hb1) (by omega) (by omega) hcm) hb1).mono ?_
    rintro e w2 ⟨rfl, hb2⟩
    go_wp2_with fail
    refine (up (rsum_n A l.length cp l _ _ rfl (hb.below hb2) hb2.size (by omega) (by omega)) hb2).mono ?_
    rintro e w3 ⟨rfl, hb3⟩
    go_wp2_with fail
    refine (up (of_n A l.length cp l _ _ rfl (hb.below hb3) (by omega) (by omega) hcm) hb3).mono ?_
    rintro e w4 ⟨rfl, hb4⟩
    go_wp2_with fail
    refine (up (rof_n A l.length cp l _ _ rfl (hb.below hb4) hb4.size (by omega) (by omega)) hb4).mono ?_
    rintro e w5 ⟨rfl, hb5⟩
    go_wp2_with (first
      | (go_at_call 13; refine (cjoin _ _ (by omega) (by omega) _).mono ?_; rintro e w' ⟨rfl, rfl⟩)
      | (go_at_call 14; refine (rjoin _ _ (by omega) (by omega) _).mono ?_; rintro e w' ⟨rfl, rfl⟩)
      | (go_at_call 15; refine (cmend _ _ _ (by omega) (by omega) (by omega) _).mono ?_; rintro e w' ⟨rfl, rfl⟩)
      | (go_at_call 16; refine (rmend _ _ _ (by omega) (by omega) (by omega) _).mono ?_; rintro e w' ⟨rfl, rfl⟩)
      | (go_at_call 17; refine (cpseudo _ _ _ _ (by omega) (by omega) _).mono ?_; rintro e w' ⟨rfl, rfl⟩)
      | (go_at_call 18; refine (up (rpseudo _ _ _ _ (by omega) (by omega) _) hb5).mono ?_; rintro e w6 ⟨rfl, hb6⟩))
    go_ret
    exact ⟨rfl, hb6⟩
  · have hbt := hb.take 3000
    have hn : (l.take 3000).length = 3000 := by rw [List.length_take]; omega
    have HN := Go.Lib.hid hn
    clear hn
    go_enter Try.func3, Try.ntmps3
    go_wp2_with (go_at_call 8; refine (awake _).mono ?_; rintro e w1 ⟨rfl, hb1⟩)
    all_goals try (exfalso; omega)
    refine (up (sum_n A 3000 cp (l.take 3000) _ _ HN.out (hbt.below hb1) (by omega) (by omega) hcm) hb1).mono ?_
    rintro e w2 ⟨rfl, hb2⟩
    go_wp2_with fail
    refine (up (rsum_n A 3000 cp (l.take 3000) _ _ HN.out (hbt.below hb2) hb2.size (by omega) (by omega)) hb2).mono ?_
    rintro e w3 ⟨rfl, hb3⟩
    go_wp2_with fail
    refine (up (of_n A 3000 cp (l.take 3000) _ _ HN.out (hbt.below hb3) (by omega) (by omega) hcm) hb3).mono ?_
    rintro e w4 ⟨rfl, hb4⟩
    go_wp2_with fail
    refine (up (rof_n A 3000 cp (l.take 3000) _ _ HN.out (hbt.below hb4) hb4.size (by omega) (by omega)) hb4).mono ?_
    rintro e w5 ⟨rfl, hb5⟩
    go_wp2_with (first
      | (go_at_call 13; refine (cjoin _ _ (by omega) (by omega) _).mono ?_; rintro e w' ⟨rfl, rfl⟩)
      | (go_at_call 14; refine (rjoin _ _ (by omega) (by omega) _).mono ?_; rintro e w' ⟨rfl, rfl⟩)
      | (go_at_call 15; refine (cmend _ _ _ (by omega) (by omega) (by omega) _).mono ?_; rintro e w' ⟨rfl, rfl⟩)
      | (go_at_call 16; refine (rmend _ _ _ (by omega) (by omega) (by omega) _).mono ?_; rintro e w' ⟨rfl, rfl⟩)
      | (go_at_call 17; refine (cpseudo _ _ _ _ (by omega) (by omega) _).mono ?_; rintro e w' ⟨rfl, rfl⟩)
      | (go_at_call 18; refine (up (rpseudo _ _ _ _ (by omega) (by omega) _) hb5).mono ?_; rintro e w6 ⟨rfl, hb6⟩))
    go_ret
    exact ⟨rfl, hb6⟩


theorem info5 : (Try.prog.info? 5).map (fun i => (i.zero, i.size, i.bytes)) = some (some (.int .u8 0), 1, 1) := by kernel_rfl

/-- a copy of at most 3000 of the bytes, in memory of the call's own. -/
theorem take3 (l : List UInt8) (n : Nat) (h : n = min l.length 3000) : (l.take 3000).length = n := by rw [List.length_take]; omega

/-- at most 3000 of the bytes, and how many. -/
theorem first3 {w : World} {B : Nat} {A : Option Addr} {l : List UInt8} (hb : Bs w B A l) (cp : Nat) (hlc : l.length ≤ cp) :
    ∃ (L : List UInt8) (n : Nat), Bs w B A L ∧ L.length = n ∧ n ≤ 3000 ∧ n ≤ cp ∧ (n = l.length ∨ n = 3000 ∧ 3000 < l.length) := by
  by_cases h : l.length ≤ 3000
  · exact ⟨l, _, hb, rfl, h, hlc, .inl rfl⟩
  · exact ⟨l.take 3000, 3000, hb.take 3000, by rw [List.length_take]; omega, by omega, by omega, .inr ⟨rfl, by omega⟩⟩

set_option maxRecDepth 100000 in
set_option maxHeartbeats 2000000 in
theorem mends (A : Option Addr) (cp : Nat) (l : List UInt8) (at_ now : Int) (hnow : 0 ≤ now ∧ now ≤ 65535)
    (w : World) (hb : Bs w w.heap.size A l) (hlc : l.length ≤ cp) (hcm : cp ≤ 9223372036854775807) (hnil : A = none → cp = 0) :
    Calls Try.prog 4 #[.slice A l.length cp, .int .i64 at_, .int .u16 now] w fun e w' => e = .returned (.bool true) ∧ Below w.heap.size w w' := by
  obtain ⟨i0, hi, hz0, hz1, hz2⟩ := info_parts info5
  have HN := Go.Lib.hid hnil
  obtain ⟨L, n, hbL, hn, h3, hncp, hc⟩ := first3 hb cp hlc
  have HNL := Go.Lib.hid hn
  have le1 := Nat.le_of_eq hn
  have le2 := Nat.le_of_eq hn.symm
  clear hnil hn hb
  generalize l.length = m at *
  rcases hc with rfl | ⟨rfl, hm3⟩
  all_goals
    by_cases hat : at_ < 0
    · go_enter Try.func4, Try.ntmps4
      go_wp2_with fail
      refine (awake _).mono ?_
      rintro e w1 ⟨rfl, hb1⟩
      have hr1 := (hbL.below hb1).rd
      go_wp2_with (at_builtin; refine wpList_copy_rd rfl _ _ 22 rfl 5 i0 (.int .u8 0) 1 Try.underlying22 hi hz0 hz1 hz2 rfl rfl w.heap.size A _ cp (L.map bv) rfl (by simpa using HNL.out) HN.out hr1 hb1.size (bv_one _) (by unfold maxLen; omega) (by omega) ?_; intro v2 w2 hown2 hb2)
      go_ret
      exact ⟨rfl, hb1.trans (hb2.mono hb1.size)⟩
    · obtain ⟨k, rfl⟩ := Int.eq_ofNat_of_zero_le (Int.not_lt.1 hat)
      by_cases hk : (L.length : Int) / 2 ≤ k
      · go_enter Try.func4, Try.ntmps4
        go_wp2_with fail
        refine (awake _).mono ?_
        rintro e w1 ⟨rfl, hb1⟩
        have hr1 := (hbL.below hb1).rd
        go_wp2_with (at_builtin; refine wpList_copy_rd rfl _ _ 22 rfl 5 i0 (.int .u8 0) 1 Try.underlying22 hi hz0 hz1 hz2 rfl rfl w.heap.size A _ cp (L.map bv) rfl (by simpa using HNL.out) HN.out hr1 hb1.size (bv_one _) (by unfold maxLen; omega) (by omega) ?_; intro v2 w2 hown2 hb2; obtain ⟨A2, c2, rfl, hc2⟩ := rd_of_own hown2)
        go_ret
        exact ⟨rfl, hb1.trans (hb2.mono hb1.size)⟩
      · have hk2 : 2 * k + 1 < L.length := by omega
        go_enter Try.func4, Try.ntmps4
        go_wp2_with fail
        refine (awake _).mono ?_
        rintro e w1 ⟨rfl, hb1⟩
        have hr1 := (hbL.below hb1).rd
        go_wp2_with (at_builtin; refine wpList_copy_rd rfl _ _ 22 rfl 5 i0 (.int .u8 0) 1 Try.underlying22 hi hz0 hz1 hz2 rfl rfl w.heap.size A _ cp (L.map bv) rfl (by simpa using HNL.out) HN.out hr1 hb1.size (bv_one _) (by unfold maxLen; omega) (by omega) ?_; intro v2 w2 hown2 hb2; obtain ⟨g, c2, rfl, hg1, hg2, hnc, hcm2⟩ := own_form hown2 (by omega))
        have HO := Go.Lib.hid hown2
        have hr2 := (rd_of_own' hown2).bs
        have hc0 : w2.cell? ⟨g, 2 * k, none⟩ = some (.int .u8 (L[2 * k].toNat : Int)) := by rw [own_cell hown2 (2 * k) (by simp; omega)]; simp [bv]
        have hc1 : w2.cell? ⟨g, 2 * k + 1, none⟩ = some (.int .u8 (L[2 * k + 1].toNat : Int)) := by rw [own_cell hown2 (2 * k + 1) (by simp; omega)]; simp [bv]
        have hf0 := hown2.frozenAt (2 * k)
        have hf1 := hown2.frozenAt (2 * k + 1)
        have ha := L[2 * k].toNat_lt
        have hb' := L[2 * k + 1].toNat_lt
        have hts0 := tot_set k L (b8 (now / 256)) (b8 (now % 256)) hk2
        obtain ⟨x, hx⟩ : ∃ x : Int, (L[2 * k].toNat : Int) = x := ⟨_, rfl⟩
        obtain ⟨y, hy⟩ : ∃ y : Int, (L[2 * k + 1].toNat : Int) = y := ⟨_, rfl⟩
        rw [hx, hy] at hts0
        rw [hx] at hc0
        rw [hy] at hc1
        have x0 : 0 ≤ x := by omega
        have x1 : x ≤ 255 := by omega
        have y0 : 0 ≤ y := by omega
        have y1 : y ≤ 255 := by omega
        have HT := Go.Lib.hid hts0
        have HX := Go.Lib.hid hx
        have HY := Go.Lib.hid hy
        have ho := u16_or8 x y x0 x1 y0 y1
        clear hown2 hts0 hx hy
        refine (of_d _ _ c2 L _ _ HNL.out hr2 (by omega) hnc hcm2).mono ?_
        rintro e w' ⟨rfl, m, rfl⟩
        go_wp2
        go_quiet (fail)
        go_wp2
        have own3 := ((World.ownsRow.stored (w := w2.drewN (m + nq)) HO.out (2 * k) (.int .u8 (now / 256))).1.stored (2 * k + 1) (.int .u8 (now % 256))).1
        have bel3 : Below w.heap.size w (((w2.drewN (m + nq)).setCell ⟨g, 2 * k, none⟩ (.int .u8 (now / 256))).setCell ⟨g, 2 * k + 1, none⟩ (.int .u8 (now % 256))) :=
          (((below_dn (hb1.trans (hb2.mono hb1.size)) (m + nq)).setCell (p := ⟨g, 2 * k, none⟩) (Nat.le_trans hb1.size hg1) _).setCell (p := ⟨g, 2 * k + 1, none⟩) (Nat.le_trans hb1.size hg1) _)
        generalize (((w2.drewN (m + nq)).setCell ⟨g, 2 * k, none⟩ (.int .u8 (now / 256))).setCell ⟨g, 2 * k + 1, none⟩ (.int .u8 (now % 256))) = w3 at own3 bel3 ⊢
        have e1 := b8_is (now / 256) (by omega) (by omega)
        have e2 := b8_is (now % 256) (by omega) (by omega)
        have el : (((L.map bv).set (2 * k) (.int .u8 (now / 256))).set (2 * k + 1) (.int .u8 (now % 256))) = (((L.set (2 * k) (b8 (now / 256))).set (2 * k + 1) (b8 (now % 256))).map bv) := by
          rw [List.map_set, List.map_set]; simp only [bv, e1, e2]
        rw [el] at own3
        have hts := HT.out
        rw [e1, e2, show 256 * (now / 256) + now % 256 = now from by omega] at hts
        have hln : ((L.set (2 * k) (b8 (now / 256))).set (2 * k + 1) (b8 (now % 256))).length = L.length := by simp
        clear HT el
        generalize ((L.set (2 * k) (b8 (now / 256))).set (2 * k + 1) (b8 (now % 256))) = l2 at own3 hts hln
        have hr3 := (rd_of_own' own3).bs
        have hT0 := tot_lo L
        have hT2 := tot_lo l2
        have HS := Go.Lib.hid hts
        have HL := Go.Lib.hid hln
        clear HO hr2 hc0 hc1 hf0 hf1 e1 e2 hts hbL hr1 HN ho hln
        go_loop [9, 10] (fun z i => ∃ j : Nat, j ≤ L.length ∧ i = .int .i64 j ∧ z = .bool (allz (l2.take j))) (fun _ i => L.length - (intOf i).toNat)
        case atStart => exact ⟨0, Nat.zero_le _, rfl, rfl⟩
        case round =>
          obtain ⟨j, hj, rfl, rfl⟩ := hrel
          by_cases hlt : j < L.length
          · have hcj : w3.cell? ⟨g, j, none⟩ = some (.int .u8 ((l2[j]'(by rw [HL.out]; exact hlt)).toNat : Int)) := by rw [own_cell own3 j (by simp [HL.out]; omega)]; simp [bv]
            have HZ := Go.Lib.hid (allz_snoc l2 j (by rw [HL.out]; exact hlt))
            cases hz : allz (l2.take j)
            · go_wp2
              go_round
              case rel => exact ⟨j + 1, by omega, by go_num, by rw [HZ.out, hz, Bool.false_and]⟩
              case measure => simp [intOf]; omega
            · go_wp2
              go_round
              case rel => exact ⟨j + 1, by omega, by go_num, by rw [HZ.out, hz, Bool.true_and, byte_zero]⟩
              case measure => simp [intOf]; omega
          · have hjl : l2.take j = l2 := List.take_of_length_le (by rw [HL.out]; omega)
            rw [hjl]
            have q1 := fo_lo (tot l2)
            have q2 := fo_hi (tot l2)
            have q3 := fo_lo (tot L)
            have q4 := fo_hi (tot L)
            cases hz : allz l2
            · have hp := tot_allz l2 hz
              have hTo : 256 * x + y ≤ tot L := tot_word L k hk2 x y HX.out HY.out
              have hmf : (mend (65535 - fo (tot L)) (x * 256 + y) now == 65535 - fo (tot l2)) = true := by
                have h := mend_fits (tot L) (x * 256 + y) now (by omega) (by omega) (by omega) (by omega) (by have := HS.out; omega)
                rw [h, show tot L - (x * 256 + y) + now = tot l2 from by have := HS.out; omega]; simp
              have HJ := Go.Lib.hid hjl
              clear hjl hz
              go_wp2_with (first
                | (go_at_call 15; refine (cmend _ _ _ (by omega) (by omega) (by omega) _).mono ?_; rintro e w' ⟨rfl, rfl⟩)
                | (go_at_call 11; refine (of_d _ _ c2 l2 _ _ (HL.out.trans HNL.out) hr3 (by omega) hnc hcm2).mono ?_; rintro e w' ⟨rfl, m3, rfl⟩))
              go_ret
              exact ⟨rfl, below_dn bel3 _⟩
            · have hp := allz_tot l2 hz
              have hmf : (65535 - fo (tot l2) == 65535) = true := by rw [hp]; decide
              clear hjl hz hp
              go_wp2_with (go_at_call 11; refine (of_d _ _ c2 l2 _ _ (HL.out.trans HNL.out) hr3 (by omega) hnc hcm2).mono ?_; rintro e w' ⟨rfl, m3, rfl⟩)
              go_ret
              exact ⟨rfl, below_dn bel3 _⟩
end Go.Proofs.Ytbbomonlkmgpeaa
