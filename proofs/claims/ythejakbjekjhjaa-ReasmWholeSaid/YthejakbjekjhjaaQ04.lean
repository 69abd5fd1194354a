/- Lemmas of layer 7, several texts in one. -/
import Derived.Test.YthejakbjekjhjaaQ03
import Derived.Deep.RegionHeld3
/- The contract of package reasm's Held. -/
namespace Go.Proofs.Ythejakbjekjhjaa
open Go.ChangeShapes Go.WideShapes Go.ChangeAt Go.RowKit
set_option linter.unusedVariables false

set_option maxRecDepth 100000 in
set_option maxHeartbeats 4000000 in
theorem cheld : HeldC := by
  intro p A c w V hP hF
  unfold FewP heldP at hF
  unfold heldP
  have m0 := poIs.made (w := w) (p := p) (A_list := A) (c_list := c)
  have b0 : Below w.heap.size w (w.alloc (poO p A c)) := (Below.refl _ _).alloc (Nat.le_refl _) _
  have HP := Go.Lib.hid (hP.at b0)
  have oc := hP.is.len
  have oc2 := hP.is.cap
  clear hP
  go_enter Try.func11, Try.ntmps11
  go_wp2
  generalize w.alloc (poO p A c) = W at *
  clear m0
  go_loopw [3, 11] (fun n i wr => ∃ k : Nat, k ≤ p.list.length ∧ i = .int .i64 k ∧ n = .int .i64 (heldL (p.list.take k) : Nat) ∧ Below W.heap.size W wr) (fun _ i _ => p.list.length - (intOf i).toNat)
  case atStart => exact ⟨0, by omega, rfl, rfl, Below.refl _ _⟩
  case round =>
    obtain ⟨k, hk, rfl, rfl, x1⟩ := hrel
    by_cases hlt : k < p.list.length
    · obtain ⟨ad, Ao, co, Ab, cb, Ar, cr, rfl, hb, hc⟩ := (HP.out.at x1).is.fs.at_ hlt
      have HE := Go.Lib.hid (heldL_take p.list k hlt)
      have HLE := Go.Lib.hid (heldL_le p.list (k + 1))
      have i1 : (0 : Int) ≤ (k : Int) := by omega
      have i2 : (k : Int) < (p.list.length : Int) := by omega
      have HC := Go.Lib.hid hc.all
      have HB := Go.Lib.hid (hc.bf (HP.out.at x1).lt)
      clear hc
      generalize hr : p.list[k] = x at *
      clear hr
      have q1 := HB.out.rlen
      have q2 := HB.out.rcap
      have y1 := below_alloc x1 x1.size (bfO x Ao co Ab cb Ar cr)
      have HB1 := Go.Lib.hid (HB.out.at ((Below.refl _ _).alloc (Nat.le_refl _) (bfO x Ao co Ab cb Ar cr)))
      clear HB
      go_wp2_with (first
        | (refine wpList_load_bf rfl _ rfl (ad.add (k * 19)) rfl x Ao co Ab cb Ar cr HC.out ?_)
        | (refine wpList_store_bf rfl _ _ rfl _ rfl x Ao co Ab cb Ar cr rfl rfl ?_))
      generalize wr.alloc (bfO x Ao co Ab cb Ar cr) = W2 at *
      go_loopw [3, 18] (fun n i w3 => ∃ j : Nat, j ≤ x.runs.length ∧ i = .int .i64 j ∧ n = .int .i64 ((heldL (p.list.take k) : Int) + (heldR (x.runs.take j) : Int)) ∧ Below W2.heap.size W2 w3) (fun _ i _ => x.runs.length - (intOf i).toNat)
      case atStart => exact ⟨0, by omega, rfl, by simp [heldR], Below.refl _ _⟩
      case round =>
        obtain ⟨j, hj, rfl, rfl, x3⟩ := hrel
        by_cases hjl : j < x.runs.length
        · obtain ⟨ad2, Ad, cd, rfl, hb2, r0, r1, rb⟩ := (HB1.out.at x3).runs.at_ hjl
          have HR := Go.Lib.hid (heldR_take x.runs j hjl)
          have HRL := Go.Lib.hid (heldR_le x.runs (j + 1))
          have i3 : (0 : Int) ≤ (j : Int) := by omega
          have i4 : (j : Int) < (x.runs.length : Int) := by omega
          have q7 := rb.len
          have q8 := rb.cap
          clear rb
          generalize hd : x.runs[j] = y at *
          clear hd
          have s1 := IntWalk.i64_in ((heldL (p.list.take k) : Int) + (heldR (x.runs.take j) : Int) + (y.data.length : Int)) (by have := HE.out; have := HLE.out; have := HR.out; have := HRL.out; omega)
          go_wp2
          go_round
          case rel => exact ⟨j + 1, by omega, by go_num, by rw [HR.out]; simp [Int.natCast_add, Int.add_assoc], x3.trans ((Below.refl _ _).alloc x3.size _)⟩
          case measure => simp [intOf]; omega
        · obtain rfl : j = x.runs.length := by omega
          go_wp2
          go_round
          case rel => exact ⟨k + 1, by omega, by go_num, by rw [HE.out, List.take_length]; simp [Int.natCast_add], y1.trans (x3.mono y1.size)⟩
          case measure => simp [intOf]; omega
    · obtain rfl : k = p.list.length := by omega
      go_wp2
      go_ret
      exact ⟨ret_int (by rw [List.take_length]), b0.trans (x1.mono b0.size)⟩
end Go.Proofs.Ythejakbjekjhjaa

/- Contracts of package reasm's small functions: within, endOf, names. -/
namespace Go.Proofs.Ythejakbjekjhjaa
open Go.ChangeShapes Go.WideShapes Go.ChangeAt Go.RowKit
set_option linter.unusedVariables false

def inB (n lo hi : Int) : Bool := decide (lo ≤ n) && decide (n ≤ hi)
set_option maxHeartbeats 400000 in
theorem cwithin (n lo hi : Int) (b : Bool) (hb : inB n lo hi = b) (w : World) :
    Calls Try.prog 26 #[.int .i64 n, .int .i64 lo, .int .i64 hi] w fun e w' => e = .returned (.bool b) ∧ w = w' := by
  subst hb
  unfold inB
  by_cases h0 : lo ≤ n
  · by_cases h1 : n ≤ hi
    · go_enter Try.func26, Try.ntmps26
      go_wp2
      go_ret
      exact ⟨by simp [h0, h1], rfl⟩
    · go_enter Try.func26, Try.ntmps26
      go_wp2
      go_ret
      exact ⟨ret_bool (by simp [h1]), rfl⟩
  · go_enter Try.func26, Try.ntmps26
    go_wp2
    go_ret
    exact ⟨ret_bool (by simp; omega), rfl⟩

set_option maxHeartbeats 400000 in
theorem cendOf (r : Rn) (Ad : Option Addr) (cd : Nat) (w : World) (s : Int) (hs : stopR r = s) (h0 : -9223372036854775808 ≤ s) (h1 : s ≤ 9223372036854775807) :
    Calls Try.prog 40 #[rnV r Ad cd] w fun e w' => e = .returned (.int .i64 s) ∧ Below w.heap.size w w' := by
  subst hs
  unfold stopR at h0 h1 ⊢
  have e1 := IntWalk.i64_in _ ⟨h0, h1⟩
  go_enter Try.func40, Try.ntmps40
  go_wp2
  go_ret
  exact ⟨rfl, (Below.refl _ _).alloc (Nat.le_refl _) _⟩

set_option maxHeartbeats 400000 in
theorem cnameOf (b : Bf) (Ao : Option Addr) (co : Nat) (Ab : Option Addr) (cb : Nat) (Ar : Option Addr) (cr : Nat) (w : World) :
    Calls Try.prog 30 #[bfV b Ao co Ab cb Ar cr] w fun e w' => e = .returned (nmV (nmB b)) ∧ Below w.heap.size w w' := by
  go_enter Try.func30, Try.ntmps30
  go_wp2
  refine bodyPost_ret (v := nmV (nmB b)) ?_ rfl ⟨rfl, below_alloc (below_alloc (Below.refl _ _) (Nat.le_refl _) _) (by simp) _⟩
  simp [results, Try.results30, go_sem, nmB]
set_option maxHeartbeats 400000 in
theorem cnameOfPiece (x : Pk) (Ao : Option Addr) (co : Nat) (Ab : Option Addr) (cb : Nat) (w : World) :
    Calls Try.prog 20 #[ipV x Ao co Ab cb] w fun e w' => e = .returned (nmV (nmX x)) ∧ Below w.heap.size w w' := by
  go_enter Try.func20, Try.ntmps20
  go_wp2
  refine bodyPost_ret (v := nmV (nmX x)) ?_ rfl ⟨rfl, below_alloc (below_alloc (Below.refl _ _) (Nat.le_refl _) _) (by simp) _⟩
  simp [results, Try.results20, go_sem, nmX]

end Go.Proofs.Ythejakbjekjhjaa

/- The contract of package reasm's find. -/
namespace Go.Proofs.Ythejakbjekjhjaa
open Go.ChangeShapes Go.WideShapes Go.ChangeAt Go.RowKit
set_option linter.unusedVariables false
set_option linter.unusedSimpArgs false

def findB (bs : List Bf) (n : Int × Int × Int × Int) : Nat := bs.findIdx (fun b => nmB b == n)
theorem find_here (bs : List Bf) (n : Int × Int × Int × Int) (k : Nat) (hk : k < bs.length) (hp : ∀ j (h : j < k), (nmB (bs[j]'(by omega)) == n) = false) (h : (nmB bs[k] == n) = true) : findB bs n = k := by
  unfold findB
  rw [List.findIdx_eq hk]
  exact ⟨h, fun j hj => hp j hj⟩
theorem find_none (bs : List Bf) (n : Int × Int × Int × Int) (hp : ∀ j (h : j < bs.length), (nmB bs[j] == n) = false) : findB bs n = bs.length := by
  unfold findB
  rw [List.findIdx_eq_length]
  intro x hx
  obtain ⟨j, hj, rfl⟩ := List.getElem_of_mem hx
  exact hp j hj
/-- a list of packets in memory. -/
abbrev LsAt (w : World) (V : Nat → Prop) (bs : List Bf) (A : Option Addr) (c : Nat) : Prop := PoAt w V ⟨0, 0, 0, bs⟩ A c
theorem eqNm (m n : Int × Int × Int × Int) (w : World) : (binOp .eql 53 (nmV m) (nmV n)).run Try.prog w = .ok (.bool (m == n)) w := by
  have hS : Try.prog.underlying 53 = some (.struct (Try.prog.fieldsOf 53)) := by kernel_rfl
  have hp : Try.prog.stoodInHeld 53 = false := by kernel_rfl
  have u3 := Try.underlying3
  have u4 := Try.underlying31
  have a3 := Try.isAgg3
  have z3 := Try.sizeOf3
  have a4 := Try.isAgg31
  have z4 := Try.sizeOf31
  rw [run_eql_struct, show (10000 : Nat) = 9999 + 1 from rfl, run_equalIn_agg w 9999 53 _ _ hS hp]
  simp only [Program.fieldsOf, Try.underlying53]
  obtain ⟨m1, m2, m3, m4⟩ := m
  obtain ⟨n1, n2, n3, n4⟩ := n
  go_simp
  by_cases h1 : m1 = n1 <;> by_cases h2 : m2 = n2 <;> by_cases h3 : m3 = n3 <;> by_cases h4 : m4 = n4 <;> simp [h1, h2, h3, h4]

set_option maxRecDepth 100000 in
set_option maxHeartbeats 4000000 in
theorem cfind (bs : List Bf) (A : Option Addr) (c : Nat) (n : Int × Int × Int × Int) (k0 : Nat) (hf : findB bs n = k0) (w : World) (V : Nat → Prop) (hP : LsAt w V bs A c) :
    Calls Try.prog 19 #[.slice A bs.length c, nmV n] w fun e w' => e = .returned (.int .i64 k0) ∧ Below w.heap.size w w' := by
  have HF := Go.Lib.hid hf
  clear hf
  have b0 : Below w.heap.size w (w.alloc (oNm n)) := (Below.refl _ _).alloc (Nat.le_refl _) _
  have M0 := Go.Lib.hid (BoNm.made (w := w) (n := n))
  have s0 : w.heap.size < (w.alloc (oNm n)).heap.size := by simp
  have HP := Go.Lib.hid (hP.at b0)
  have oc := hP.is.len
  have oc2 := hP.is.cap
  dsimp only at oc
  clear hP
  go_enter Try.func19, Try.ntmps19
  go_wp2
  generalize w.alloc (oNm n) = W at *
  go_loopw [9] (fun i wr => ∃ k : Nat, k ≤ bs.length ∧ i = .int .i64 k ∧ Hid (∀ j (h : j < bs.length), j < k → (nmB bs[j] == n) = false) ∧ Below W.heap.size W wr) (fun i _ => bs.length - (intOf i).toNat)
  case atStart => exact ⟨0, by omega, rfl, Go.Lib.hid (fun j _ h => by omega), Below.refl _ _⟩
  case round =>
    obtain ⟨k, hk, rfl, HT, x1⟩ := hrel
    by_cases hlt : k < bs.length
    · obtain ⟨ad, Ao, co, Ab, cb, Ar, cr, rfl, hb, hc⟩ := (HP.out.at x1).is.fs.at_ hlt
      have HX : Hid (bs[k]? = some bs[k]) := Go.Lib.hid (List.getElem?_eq_getElem hlt)
      have i1 : (0 : Int) ≤ (k : Int) := by omega
      have i2 : (k : Int) < (bs.length : Int) := by omega
      have HC := Go.Lib.hid hc.all
      clear hc
      dsimp only at HC
      have HY : Hid (∀ x, bs[k] = x → (nmB x == n) = true → findB bs n = k) := Go.Lib.hid (fun x h e => find_here bs n k hlt (fun j hj => HT.out j (by omega) hj) (by rw [h]; exact e))
      have HZ : Hid (∀ x, bs[k] = x → (nmB x == n) = false → ∀ j (h : j < bs.length), j < k + 1 → (nmB bs[j] == n) = false) := Go.Lib.hid (fun x h e j hj hjk => by
        by_cases h' : j = k
        · subst h'; rw [h]; exact e
        · exact HT.out j hj (by omega))
      generalize hr : bs[k] = x at *
      have HY2 := Go.Lib.hid (HY.out x rfl)
      have HZ2 := Go.Lib.hid (HZ.out x rfl)
      clear HY HZ HX hr HT
      have y1 := below_alloc x1 x1.size (oBf x Ao co Ab cb Ar cr)
      have M1 := BoBf.made (w := wr) (b := x) (Ao := Ao) (co := co) (Ab := Ab) (cb := cb) (Ar := Ar) (cr := cr)
      have s1 : wr.heap.size < (wr.alloc (oBf x Ao co Ab cb Ar cr)).heap.size := by simp
      go_upto_region 3 with fail
      go_wp2_with (first
        | (refine wpList_load_bf rfl _ rfl (ad.add (k * 19)) rfl x Ao co Ab cb Ar cr HC.out ?_)
        | (refine wpList_store_bf rfl _ _ rfl _ rfl x Ao co Ab cb Ar cr rfl rfl ?_))
      generalize wr.alloc (oBf x Ao co Ab cb Ar cr) = W3 at *
      generalize wr.heap.size = bb at *
      have K : ∀ Y, Below W3.heap.size W3 Y → Y.cell? ⟨w.heap.size, 0, none⟩ = some (.int .u32 n.1) ∧ Y.cell? ⟨w.heap.size, 1, none⟩ = some (.int .u32 n.2.1) ∧ Y.cell? ⟨w.heap.size, 2, none⟩ = some (.int .i64 n.2.2.1) ∧ Y.cell? ⟨w.heap.size, 3, none⟩ = some (.int .i64 n.2.2.2) := fun Y y => M0.out.keep (y1.trans (y.mono y1.size)) s0
      clear HC
      cases hq : (nmB x == n)
      · have eq1 := fun W => (eqNm (nmB x) n W).trans (by rw [hq])
        have HQ := Go.Lib.hid hq
        clear hq
        try simp only [Act.put, List.setIfInBounds_toArray, List.set_cons_zero, List.set_cons_succ]
        refine wp_region_held_drew (S := fun Y => Below W3.heap.size W3 Y) (by kernel_rfl) ?_ (fun hHeld => ?_)
        · exact below_drew (Below.refl _ _)
        refine wpAnyH_take (i := 0) (oi := ⟨some 14, _, _, _, _, _⟩) (v := bfV x Ao co Ab cb Ar cr) rfl (by kernel_rfl) (by kernel_rfl) (by kernel_rfl) (fun _ _ _ h => h) (yieldsIf_bf (by rfl) _ rfl ⟨bb, 0, none⟩ rfl x Ao co Ab cb Ar cr (fun w h => (M1.keep h s1).at)) (by assumption) ?_
        try simp only [Act.put, List.setIfInBounds_toArray, List.set_cons_zero, List.set_cons_succ]
        refine wpAnyH_take (i := 2) (oi := ⟨some 16, _, _, _, _, _⟩) (v := ?_) rfl (by kernel_rfl) (by kernel_rfl) (by kernel_rfl) (fun _ _ _ h => h) (Or.inl ⟨by rfl, ?_⟩) (by assumption) ?_
        rotate_left
        · intro w hSw; obtain ⟨n0, n1, n2, n3⟩ := K w hSw; (try dsimp only at hSw); go_simp; (try with_reducible rfl)
        try simp only [Act.put, List.setIfInBounds_toArray, List.set_cons_zero, List.set_cons_succ]
        refine wpAnyH_ready (rs := [1]) (by kernel_rfl) (by simp) (AllReadyH.cons (o := ⟨some 15, _, _, _, _, _⟩) rfl (fun Kc hKc => ?_) AllReadyH.nil)
        go_simp
        go_at_call 30; refine (cnameOf x Ao co Ab cb Ar cr _).mono ?_; rintro e w' ⟨rfl, hcall⟩; dsimp only
        refine hKc.out _ _ (hHeld.trans (hcall.mono hHeld.size)) (fun hHeld => ?_)
        clear hKc Kc
        try simp only [Act.put, List.setIfInBounds_toArray, List.set_cons_zero, List.set_cons_succ]
        refine wpAnyH_take (i := 3) (oi := ⟨some 17, _, _, _, _, _⟩) (v := ?_) rfl (by kernel_rfl) (by kernel_rfl) (by kernel_rfl) (fun _ _ _ h => h) (Or.inl ⟨by rfl, ?_⟩) (by assumption) ?_
        rotate_left
        · intro w hSw; (try dsimp only at hSw); go_simp; (try with_reducible rfl)
        try simp only [Act.put, List.setIfInBounds_toArray, List.set_cons_zero, List.set_cons_succ]
        refine wpAnyH_done (by kernel_rfl) ?_ _
        have xF := y1.trans (hHeld.mono y1.size)
        clear hcall hHeld
        go_wp2
        go_round
        case rel => exact ⟨k + 1, by omega, by go_num, Go.Lib.hid (HZ2.out HQ.out), xF⟩
        case measure => simp [intOf]; omega
      · have eq1 := fun W => (eqNm (nmB x) n W).trans (by rw [hq])
        have HQ := Go.Lib.hid hq
        clear hq
        try simp only [Act.put, List.setIfInBounds_toArray, List.set_cons_zero, List.set_cons_succ]
        refine wp_region_held_drew (S := fun Y => Below W3.heap.size W3 Y) (by kernel_rfl) ?_ (fun hHeld => ?_)
        · exact below_drew (Below.refl _ _)
        refine wpAnyH_take (i := 0) (oi := ⟨some 14, _, _, _, _, _⟩) (v := bfV x Ao co Ab cb Ar cr) rfl (by kernel_rfl) (by kernel_rfl) (by kernel_rfl) (fun _ _ _ h => h) (yieldsIf_bf (by rfl) _ rfl ⟨bb, 0, none⟩ rfl x Ao co Ab cb Ar cr (fun w h => (M1.keep h s1).at)) (by assumption) ?_
        try simp only [Act.put, List.setIfInBounds_toArray, List.set_cons_zero, List.set_cons_succ]
        refine wpAnyH_take (i := 2) (oi := ⟨some 16, _, _, _, _, _⟩) (v := ?_) rfl (by kernel_rfl) (by kernel_rfl) (by kernel_rfl) (fun _ _ _ h => h) (Or.inl ⟨by rfl, ?_⟩) (by assumption) ?_
        rotate_left
        · intro w hSw; obtain ⟨n0, n1, n2, n3⟩ := K w hSw; (try dsimp only at hSw); go_simp; (try with_reducible rfl)
        try simp only [Act.put, List.setIfInBounds_toArray, List.set_cons_zero, List.set_cons_succ]
        refine wpAnyH_ready (rs := [1]) (by kernel_rfl) (by simp) (AllReadyH.cons (o := ⟨some 15, _, _, _, _, _⟩) rfl (fun Kc hKc => ?_) AllReadyH.nil)
        go_simp
        go_at_call 30; refine (cnameOf x Ao co Ab cb Ar cr _).mono ?_; rintro e w' ⟨rfl, hcall⟩; dsimp only
        refine hKc.out _ _ (hHeld.trans (hcall.mono hHeld.size)) (fun hHeld => ?_)
        clear hKc Kc
        try simp only [Act.put, List.setIfInBounds_toArray, List.set_cons_zero, List.set_cons_succ]
        refine wpAnyH_take (i := 3) (oi := ⟨some 17, _, _, _, _, _⟩) (v := ?_) rfl (by kernel_rfl) (by kernel_rfl) (by kernel_rfl) (fun _ _ _ h => h) (Or.inl ⟨by rfl, ?_⟩) (by assumption) ?_
        rotate_left
        · intro w hSw; (try dsimp only at hSw); go_simp; (try with_reducible rfl)
        try simp only [Act.put, List.setIfInBounds_toArray, List.set_cons_zero, List.set_cons_succ]
        refine wpAnyH_done (by kernel_rfl) ?_ _
        have xF := y1.trans (hHeld.mono y1.size)
        clear hcall hHeld
        go_wp2
        go_ret
        exact ⟨ret_int (by rw [← HF.out, HY2.out HQ.out]), b0.trans (xF.mono b0.size)⟩
    · obtain rfl : k = bs.length := by omega
      go_wp2
      go_ret
      exact ⟨ret_int (by rw [← HF.out, find_none bs n (fun j h => HT.out j h h)]), b0.trans (x1.mono b0.size)⟩
end Go.Proofs.Ythejakbjekjhjaa
