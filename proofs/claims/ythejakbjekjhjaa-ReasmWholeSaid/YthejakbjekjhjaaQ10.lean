/- Lemmas of layer 7, several texts in one. -/
import Derived.Test.YthejakbjekjhjaaQ04
import Derived.Test.YthejakbjekjhjaaQ09
/- The contract of package reasm's Right. -/
namespace Go.Proofs.Ythejakbjekjhjaa
open Go.ChangeShapes Go.WideShapes Go.ChangeAt Go.RowKit
set_option linter.unusedVariables false
set_option linter.unusedSimpArgs false

/-- the first packets are right, and no two of one name. -/
def prefB (bs : List Bf) (now : Int) (k : Nat) : Bool := (bs.take k).all (fun b => goodB b now) && decide ((bs.take k).map nmB).Nodup
theorem pref_step (bs : List Bf) (now : Int) (k : Nat) (h : k < bs.length) : prefB bs now (k + 1) = (prefB bs now k && (goodB bs[k] now && !decide (findB (bs.take k) (nmB bs[k]) < k))) := by
  unfold prefB
  rw [List.take_succ_eq_append_getElem h, List.all_append, List.map_append, Bool.eq_iff_iff]
  have e : findB (bs.take k) (nmB bs[k]) < k ↔ nmB bs[k] ∈ (bs.take k).map nmB := by
    have hl : (bs.take k).length = k := by rw [List.length_take]; omega
    unfold findB
    conv => lhs; rhs; rw [← hl]
    rw [List.findIdx_lt_length]
    constructor
    · rintro ⟨x, hx, hn⟩; exact List.mem_map.2 ⟨x, hx, by simpa using hn⟩
    · intro hm; obtain ⟨x, hx, hn⟩ := List.mem_map.1 hm; exact ⟨x, hx, by simpa using hn⟩
  simp only [Bool.and_eq_true, Bool.not_eq_true', decide_eq_true_eq, decide_eq_false_iff_not, e, List.nodup_append, List.all_cons, List.all_nil, Bool.and_true, List.map_cons, List.map_nil]
  constructor
  · rintro ⟨⟨a, b⟩, c, _, d⟩
    exact ⟨⟨a, c⟩, b, fun hm => d _ hm _ (by simp) rfl⟩
  · rintro ⟨⟨a, c⟩, b, d⟩
    exact ⟨⟨a, b⟩, c, by simp, fun x hx y hy hxy => d (by rw [← (List.mem_singleton.1 hy), ← hxy]; exact hx)⟩
theorem pref_mono (bs : List Bf) (now : Int) (k : Nat) (h : k < bs.length) (hp : prefB bs now (k + 1) = false) : prefB bs now bs.length = false := by
  have : ∀ m, k + 1 + m ≤ bs.length → prefB bs now (k + 1 + m) = false := by
    intro m
    induction m with
    | zero => intro _; exact hp
    | succ m ih =>
      intro hm
      rw [show k + 1 + (m + 1) = (k + 1 + m) + 1 by omega, pref_step bs now (k + 1 + m) (by omega), ih (by omega)]; rfl
  have := this (bs.length - (k + 1)) (by omega)
  rwa [show k + 1 + (bs.length - (k + 1)) = bs.length by omega] at this
theorem rightP_code (p : Po) : rightP p = (inB p.room 1 1048576 && (inB p.life 1 1048576 && (inB p.now 0 1099511627776 && (decide (p.list.length ≤ 64) && (prefB p.list p.now p.list.length && decide ((heldP p : Int) ≤ p.room)))))) := by
  unfold rightP inB prefB
  rw [List.take_length]
  simp only [Bool.and_assoc]
theorem Fs.take {w : World} {V : Nat → Prop} {A : Option Addr} {bs : List Bf} (h : Fs w V A bs) (k : Nat) : Fs w V A (bs.take k) := by
  rcases h with h | ⟨ad, e, hlt, hc⟩
  · exact .inl (by rw [h]; simp)
  · exact .inr ⟨ad, e, hlt, fun j o hj => hc j o (by rw [List.getElem?_take] at hj; split at hj <;> simp_all)⟩
theorem PoAt.take {w : World} {V : Nat → Prop} {p : Po} {A : Option Addr} {c : Nat} (h : PoAt w V p A c) (k : Nat) : LsAt w V (p.list.take k) A c :=
  ⟨⟨by show (p.list.take k).length ≤ c; rw [List.length_take]; have := h.is.len; omega, h.is.cap, h.is.nil, h.is.fs.take k⟩, h.lt⟩
theorem PoAt.ls {w : World} {V : Nat → Prop} {p : Po} {A : Option Addr} {c : Nat} (h : PoAt w V p A c) : LsAt w V p.list A c := ⟨⟨h.is.len, h.is.cap, h.is.nil, h.is.fs⟩, h.lt⟩
theorem cfindN (bs : List Bf) (A : Option Addr) (c n : Nat) (hn : bs.length = n) (nm : Int × Int × Int × Int) (k0 : Nat) (hf : findB bs nm = k0) (w : World) (V : Nat → Prop) (hP : LsAt w V bs A c) :
    Calls Try.prog 19 #[.slice A n c, nmV nm] w fun e w' => e = .returned (.int .i64 k0) ∧ Below w.heap.size w w' := by
  subst hn; exact cfind bs A c nm k0 hf w V hP
theorem findB_le (bs : List Bf) (n : Int × Int × Int × Int) : findB bs n ≤ bs.length := List.findIdx_le_length

set_option maxRecDepth 100000 in
set_option maxHeartbeats 4000000 in
theorem cright : RightC := by
  intro p A c w V q hq hP hF
  rw [rightP_code] at hq
  have HQ := Go.Lib.hid hq
  have b0 : Below w.heap.size w (w.alloc (oPo p A c)) := (Below.refl _ _).alloc (Nat.le_refl _) _
  have M0 := Go.Lib.hid (BoPo.made (w := w) (p := p) (A := A) (c := c))
  have s0 : w.heap.size < (w.alloc (oPo p A c)).heap.size := by simp
  have HP := Go.Lib.hid (hP.at b0)
  have oc := hP.is.len
  have oc2 := hP.is.cap
  clear hP hq
  go_enter Try.func10, Try.ntmps10
  go_upto_region 1 with fail
  generalize w.alloc (oPo p A c) = W at *
  obtain ⟨c0, c1, c2, c3⟩ := M0.out.cells
  cases h1 : inB p.room 1 1048576
  · go_wp2_with (first
      | (go_at_call_of 26 (Value.int .i64 p.room); refine (cwithin _ _ _ false h1 _).mono ?_; rintro e w' ⟨rfl, rfl⟩; dsimp only))
    go_ret
    exact ⟨ret_bool (by rw [← HQ.out, h1]; rfl), b0⟩
  cases h2 : inB p.life 1 1048576
  · go_wp2_with (first
      | (go_at_call_of 26 (Value.int .i64 p.room); refine (cwithin _ _ _ true h1 _).mono ?_; rintro e w' ⟨rfl, rfl⟩; dsimp only)
      | (go_at_call_of 26 (Value.int .i64 p.life); refine (cwithin _ _ _ false h2 _).mono ?_; rintro e w' ⟨rfl, rfl⟩; dsimp only))
    go_ret
    exact ⟨ret_bool (by rw [← HQ.out, h1, h2]; rfl), b0⟩
  cases h3 : inB p.now 0 1099511627776
  · go_wp2_with (first
      | (go_at_call_of 26 (Value.int .i64 p.room); refine (cwithin _ _ _ true h1 _).mono ?_; rintro e w' ⟨rfl, rfl⟩; dsimp only)
      | (go_at_call_of 26 (Value.int .i64 p.life); refine (cwithin _ _ _ true h2 _).mono ?_; rintro e w' ⟨rfl, rfl⟩; dsimp only)
      | (go_at_call_of 26 (Value.int .i64 p.now); refine (cwithin _ _ _ false h3 _).mono ?_; rintro e w' ⟨rfl, rfl⟩; dsimp only))
    go_ret
    exact ⟨ret_bool (by rw [← HQ.out, h1, h2, h3]; rfl), b0⟩
  by_cases h4 : p.list.length ≤ 64
  case neg =>
    go_wp2_with (first
      | (go_at_call_of 26 (Value.int .i64 p.room); refine (cwithin _ _ _ true h1 _).mono ?_; rintro e w' ⟨rfl, rfl⟩; dsimp only)
      | (go_at_call_of 26 (Value.int .i64 p.life); refine (cwithin _ _ _ true h2 _).mono ?_; rintro e w' ⟨rfl, rfl⟩; dsimp only)
      | (go_at_call_of 26 (Value.int .i64 p.now); refine (cwithin _ _ _ true h3 _).mono ?_; rintro e w' ⟨rfl, rfl⟩; dsimp only))
    go_ret
    exact ⟨ret_bool (by rw [← HQ.out, h1, h2, h3]; simp; omega), b0⟩
  have HQ2 : Hid (q = (prefB p.list p.now p.list.length && decide ((heldP p : Int) ≤ p.room))) := Go.Lib.hid (by rw [← HQ.out, h1, h2, h3]; simp [h4])
  clear HQ
  go_wp2_with (first
    | (go_at_call_of 26 (Value.int .i64 p.room); refine (cwithin _ _ _ true h1 _).mono ?_; rintro e w' ⟨rfl, rfl⟩; dsimp only)
    | (go_at_call_of 26 (Value.int .i64 p.life); refine (cwithin _ _ _ true h2 _).mono ?_; rintro e w' ⟨rfl, rfl⟩; dsimp only)
    | (go_at_call_of 26 (Value.int .i64 p.now); refine (cwithin _ _ _ true h3 _).mono ?_; rintro e w' ⟨rfl, rfl⟩; dsimp only))
  clear c0 c1 c2 c3 h1 h2 h3
  go_loopw [28] (fun i wr => ∃ k : Nat, k ≤ p.list.length ∧ i = .int .i64 k ∧ Hid (prefB p.list p.now k = true) ∧ Below W.heap.size W wr) (fun i _ => p.list.length - (intOf i).toNat)
  case atStart => exact ⟨0, by omega, rfl, Go.Lib.hid (by simp [prefB]), Below.refl _ _⟩
  case round =>
    obtain ⟨k, hk, rfl, HT, x1⟩ := hrel
    by_cases hlt : k < p.list.length
    · obtain ⟨ad, Ao, co, Ab, cb, Ar, cr, rfl, hb, hc⟩ := (HP.out.at x1).is.fs.at_ hlt
      have i1 : (0 : Int) ≤ (k : Int) := by omega
      have i2 : (k : Int) < (p.list.length : Int) := by omega
      have i3 : (k : Int) ≤ (c : Int) := by omega
      have HC := Go.Lib.hid hc.all
      have HB0 := Go.Lib.hid (hc.bf (HP.out.at x1).lt)
      clear hc
      have HPS : Hid (prefB p.list p.now (k + 1) = (goodB p.list[k] p.now && !decide (findB (p.list.take k) (nmB p.list[k]) < k))) := Go.Lib.hid (by rw [pref_step _ _ _ hlt, HT.out]; rfl)
      have HBAD : Hid (prefB p.list p.now (k + 1) = false → q = false) := Go.Lib.hid (fun h => by rw [HQ2.out, pref_mono _ _ _ hlt h]; rfl)
      have HLT := Go.Lib.hid (HP.out.take k)
      have HK : Hid ((p.list.take k).length = k) := Go.Lib.hid (by rw [List.length_take]; omega)
      generalize hr : p.list[k] = x at *
      clear hr
      have y1d := (Below.refl wr.heap.size wr).alloc (Nat.le_refl _) (oBf x Ao co Ab cb Ar cr)
      have y1 := x1.trans (y1d.mono x1.size)
      have HB := Go.Lib.hid (HB0.out.at y1d)
      have M1 := Go.Lib.hid (BoBf.made (w := wr) (b := x) (Ao := Ao) (co := co) (Ab := Ab) (cb := cb) (Ar := Ar) (cr := cr))
      have s1 : wr.heap.size < (wr.alloc (oBf x Ao co Ab cb Ar cr)).heap.size := by simp
      clear HB0
      go_upto_region 7 with fail
      go_wp2_with (first
        | (refine wpList_load_bf rfl _ rfl (ad.add (k * 19)) rfl x Ao co Ab cb Ar cr HC.out ?_)
        | (refine wpList_store_bf rfl _ _ rfl _ rfl x Ao co Ab cb Ar cr rfl rfl ?_))
      generalize wr.alloc (oBf x Ao co Ab cb Ar cr) = W3 at *
      have KP : Hid (∀ Y, Below W3.heap.size W3 Y → Y.cell? ⟨w.heap.size, 0, none⟩ = some (.int .i64 p.room) ∧ Y.cell? ⟨w.heap.size, 1, none⟩ = some (.int .i64 p.life) ∧ Y.cell? ⟨w.heap.size, 2, none⟩ = some (.int .i64 p.now) ∧ Y.cell? ⟨w.heap.size, 3, none⟩ = some (.slice (some ad) p.list.length c)) := Go.Lib.hid fun Y y => M0.out.keep (y1.trans (y.mono y1.size)) s0
      clear HC
      cases hg : goodB x p.now
      ·
        try simp only [Act.put, List.setIfInBounds_toArray, List.set_cons_zero, List.set_cons_succ]
        refine wp_region_held_drew (S := fun Y => Below W3.heap.size W3 Y) (by kernel_rfl) ?_ (fun hHeld => ?_)
        · exact below_drew (Below.refl _ _)
        refine wpAnyH_take (i := 0) (oi := ⟨some 33, _, _, _, _, _⟩) (v := bfV x Ao co Ab cb Ar cr) rfl (by kernel_rfl) (by kernel_rfl) (by kernel_rfl) (fun _ _ _ h => h) (yieldsIf_bf (by rfl) _ rfl ⟨wr.heap.size, 0, none⟩ rfl x Ao co Ab cb Ar cr (fun w h => (M1.out.keep h s1).at)) (by assumption) ?_
        try simp only [Act.put, List.setIfInBounds_toArray, List.set_cons_zero, List.set_cons_succ]
        refine wpAnyH_take (i := 1) (oi := ⟨some 34, _, _, _, _, _⟩) (v := ?_) rfl (by kernel_rfl) (by kernel_rfl) (by kernel_rfl) (fun _ _ _ h => h) (Or.inl ⟨by rfl, ?_⟩) (by assumption) ?_
        rotate_left
        · intro w hSw; (try dsimp only at hSw); go_simp; (try with_reducible rfl)
        try simp only [Act.put, List.setIfInBounds_toArray, List.set_cons_zero, List.set_cons_succ]
        refine wpAnyH_take (i := 2) (oi := ⟨some 35, _, _, _, _, _⟩) (v := ?_) rfl (by kernel_rfl) (by kernel_rfl) (by kernel_rfl) (fun _ _ _ h => h) (Or.inl ⟨by rfl, ?_⟩) (by assumption) ?_
        rotate_left
        · intro w hSw; obtain ⟨p0, p1, p2, p3⟩ := KP.out w hSw; (try dsimp only at hSw); go_simp; (try with_reducible rfl)
        try simp only [Act.put, List.setIfInBounds_toArray, List.set_cons_zero, List.set_cons_succ]
        refine wpAnyH_ready (rs := [3]) (by kernel_rfl) (by simp) (AllReadyH.cons (o := ⟨some 36, _, _, _, _, _⟩) rfl (fun Kc hKc => ?_) AllReadyH.nil)
        go_simp
        go_at_call 29; refine (crightBuffer x Ao co Ab cb Ar cr p.now false hg _ V (HB.out.at hHeld)).mono ?_; rintro e w' ⟨rfl, hcall⟩; dsimp only
        refine hKc.out _ _ (hHeld.trans (hcall.mono hHeld.size)) (fun hHeld => ?_)
        clear hKc Kc
        try simp only [Act.put, List.setIfInBounds_toArray, List.set_cons_zero, List.set_cons_succ]
        refine wpAnyH_take (i := 4) (oi := ⟨some 37, _, _, _, _, _⟩) (v := ?_) rfl (by kernel_rfl) (by kernel_rfl) (by kernel_rfl) (fun _ _ _ h => h) (Or.inl ⟨by rfl, ?_⟩) (by assumption) ?_
        rotate_left
        · intro w hSw; (try dsimp only at hSw); go_simp; (try with_reducible rfl)
        try simp only [Act.put, List.setIfInBounds_toArray, List.set_cons_zero, List.set_cons_succ]
        refine wpAnyH_take (i := 5) (oi := ⟨some 38, _, _, _, _, _⟩) (v := ?_) rfl (by kernel_rfl) (by kernel_rfl) (by kernel_rfl) (fun _ _ _ h => h) (Or.inl ⟨by rfl, ?_⟩) (by assumption) ?_
        rotate_left
        · intro w hSw; (try dsimp only at hSw); go_simp; (try with_reducible rfl)
        try simp only [Act.put, List.setIfInBounds_toArray, List.set_cons_zero, List.set_cons_succ]
        refine wpAnyH_take (i := 6) (oi := ⟨some 39, _, _, _, _, _⟩) (v := undef) rfl (by kernel_rfl) (by kernel_rfl) (by kernel_rfl) (fun _ _ _ h => h) (Or.inr ⟨by rfl, rfl⟩) (by assumption) ?_
        try simp only [Act.put, List.setIfInBounds_toArray, List.set_cons_zero, List.set_cons_succ]
        refine wpAnyH_take (i := 7) (oi := ⟨some 40, _, _, _, _, _⟩) (v := undef) rfl (by kernel_rfl) (by kernel_rfl) (by kernel_rfl) (fun _ _ _ h => h) (Or.inr ⟨by rfl, rfl⟩) (by assumption) ?_
        try simp only [Act.put, List.setIfInBounds_toArray, List.set_cons_zero, List.set_cons_succ]
        refine wpAnyH_take (i := 8) (oi := ⟨some 41, _, _, _, _, _⟩) (v := undef) rfl (by kernel_rfl) (by kernel_rfl) (by kernel_rfl) (fun _ _ _ h => h) (Or.inr ⟨by rfl, rfl⟩) (by assumption) ?_
        try simp only [Act.put, List.setIfInBounds_toArray, List.set_cons_zero, List.set_cons_succ]
        refine wpAnyH_take (i := 9) (oi := ⟨some 42, _, _, _, _, _⟩) (v := undef) rfl (by kernel_rfl) (by kernel_rfl) (by kernel_rfl) (fun _ _ _ h => h) (Or.inr ⟨by rfl, rfl⟩) (by assumption) ?_
        try simp only [Act.put, List.setIfInBounds_toArray, List.set_cons_zero, List.set_cons_succ]
        refine wpAnyH_take (i := 10) (oi := ⟨some 43, _, _, _, _, _⟩) (v := undef) rfl (by kernel_rfl) (by kernel_rfl) (by kernel_rfl) (fun _ _ _ h => h) (Or.inr ⟨by rfl, rfl⟩) (by assumption) ?_
        try simp only [Act.put, List.setIfInBounds_toArray, List.set_cons_zero, List.set_cons_succ]
        refine wpAnyH_take (i := 11) (oi := ⟨some 44, _, _, _, _, _⟩) (v := undef) rfl (by kernel_rfl) (by kernel_rfl) (by kernel_rfl) (fun _ _ _ h => h) (Or.inr ⟨by rfl, rfl⟩) (by assumption) ?_
        try simp only [Act.put, List.setIfInBounds_toArray, List.set_cons_zero, List.set_cons_succ]
        refine wpAnyH_take (i := 12) (oi := ⟨some 45, _, _, _, _, _⟩) (v := undef) rfl (by kernel_rfl) (by kernel_rfl) (by kernel_rfl) (fun _ _ _ h => h) (Or.inr ⟨by rfl, rfl⟩) (by assumption) ?_
        try simp only [Act.put, List.setIfInBounds_toArray, List.set_cons_zero, List.set_cons_succ]
        refine wpAnyH_take (i := 13) (oi := ⟨some 46, _, _, _, _, _⟩) (v := undef) rfl (by kernel_rfl) (by kernel_rfl) (by kernel_rfl) (fun _ _ _ h => h) (Or.inr ⟨by rfl, rfl⟩) (by assumption) ?_
        try simp only [Act.put, List.setIfInBounds_toArray, List.set_cons_zero, List.set_cons_succ]
        refine wpAnyH_take (i := 14) (oi := ⟨some 47, _, _, _, _, _⟩) (v := undef) rfl (by kernel_rfl) (by kernel_rfl) (by kernel_rfl) (fun _ _ _ h => h) (Or.inr ⟨by rfl, rfl⟩) (by assumption) ?_
        try simp only [Act.put, List.setIfInBounds_toArray, List.set_cons_zero, List.set_cons_succ]
        refine wpAnyH_take (i := 15) (oi := ⟨some 48, _, _, _, _, _⟩) (v := ?_) rfl (by kernel_rfl) (by kernel_rfl) (by kernel_rfl) (fun _ _ _ h => h) (Or.inl ⟨by rfl, ?_⟩) (by assumption) ?_
        rotate_left
        · intro w hSw; (try dsimp only at hSw); go_simp; (try with_reducible rfl)
        try simp only [Act.put, List.setIfInBounds_toArray, List.set_cons_zero, List.set_cons_succ]
        refine wpAnyH_done (by kernel_rfl) ?_ _
        have xF := y1.trans (hHeld.mono y1.size)
        clear hcall hHeld
        go_wp2
        go_ret
        exact ⟨ret_bool (by rw [HBAD.out (by rw [HPS.out, hg]; rfl)]), b0.trans (xF.mono b0.size)⟩
      · have HKF0 := findB_le (p.list.take k) (nmB x)
        rw [HK.out] at HKF0
        generalize hkf : findB (p.list.take k) (nmB x) = kf at *
        have HKF := Go.Lib.hid hkf
        clear hkf
        by_cases hl : kf < k
        · have t14 : (kf : Int) < (k : Int) := by omega
          try simp only [Act.put, List.setIfInBounds_toArray, List.set_cons_zero, List.set_cons_succ]
          refine wp_region_held_drew (S := fun Y => Below W3.heap.size W3 Y) (by kernel_rfl) ?_ (fun hHeld => ?_)
          · exact below_drew (Below.refl _ _)
          refine wpAnyH_take (i := 0) (oi := ⟨some 33, _, _, _, _, _⟩) (v := bfV x Ao co Ab cb Ar cr) rfl (by kernel_rfl) (by kernel_rfl) (by kernel_rfl) (fun _ _ _ h => h) (yieldsIf_bf (by rfl) _ rfl ⟨wr.heap.size, 0, none⟩ rfl x Ao co Ab cb Ar cr (fun w h => (M1.out.keep h s1).at)) (by assumption) ?_
          try simp only [Act.put, List.setIfInBounds_toArray, List.set_cons_zero, List.set_cons_succ]
          refine wpAnyH_take (i := 1) (oi := ⟨some 34, _, _, _, _, _⟩) (v := ?_) rfl (by kernel_rfl) (by kernel_rfl) (by kernel_rfl) (fun _ _ _ h => h) (Or.inl ⟨by rfl, ?_⟩) (by assumption) ?_
          rotate_left
          · intro w hSw; (try dsimp only at hSw); go_simp; (try with_reducible rfl)
          try simp only [Act.put, List.setIfInBounds_toArray, List.set_cons_zero, List.set_cons_succ]
          refine wpAnyH_take (i := 2) (oi := ⟨some 35, _, _, _, _, _⟩) (v := ?_) rfl (by kernel_rfl) (by kernel_rfl) (by kernel_rfl) (fun _ _ _ h => h) (Or.inl ⟨by rfl, ?_⟩) (by assumption) ?_
          rotate_left
          · intro w hSw; obtain ⟨p0, p1, p2, p3⟩ := KP.out w hSw; (try dsimp only at hSw); go_simp; (try with_reducible rfl)
          try simp only [Act.put, List.setIfInBounds_toArray, List.set_cons_zero, List.set_cons_succ]
          refine wpAnyH_ready (rs := [3]) (by kernel_rfl) (by simp) (AllReadyH.cons (o := ⟨some 36, _, _, _, _, _⟩) rfl (fun Kc hKc => ?_) AllReadyH.nil)
          go_simp
          go_at_call 29; refine (crightBuffer x Ao co Ab cb Ar cr p.now true hg _ V (HB.out.at hHeld)).mono ?_; rintro e w' ⟨rfl, hcall⟩; dsimp only
          refine hKc.out _ _ (hHeld.trans (hcall.mono hHeld.size)) (fun hHeld => ?_)
          clear hKc Kc
          try simp only [Act.put, List.setIfInBounds_toArray, List.set_cons_zero, List.set_cons_succ]
          refine wpAnyH_take (i := 4) (oi := ⟨some 37, _, _, _, _, _⟩) (v := ?_) rfl (by kernel_rfl) (by kernel_rfl) (by kernel_rfl) (fun _ _ _ h => h) (Or.inl ⟨by rfl, ?_⟩) (by assumption) ?_
          rotate_left
          · intro w hSw; (try dsimp only at hSw); go_simp; (try with_reducible rfl)
          try simp only [Act.put, List.setIfInBounds_toArray, List.set_cons_zero, List.set_cons_succ]
          refine wpAnyH_take (i := 5) (oi := ⟨some 38, _, _, _, _, _⟩) (v := ?_) rfl (by kernel_rfl) (by kernel_rfl) (by kernel_rfl) (fun _ _ _ h => h) (Or.inl ⟨by rfl, ?_⟩) (by assumption) ?_
          rotate_left
          · intro w hSw; (try dsimp only at hSw); go_simp; (try with_reducible rfl)
          try simp only [Act.put, List.setIfInBounds_toArray, List.set_cons_zero, List.set_cons_succ]
          refine wpAnyH_take (i := 6) (oi := ⟨some 39, _, _, _, _, _⟩) (v := ?_) rfl (by kernel_rfl) (by kernel_rfl) (by kernel_rfl) (fun _ _ _ h => h) (Or.inl ⟨by rfl, ?_⟩) (by assumption) ?_
          rotate_left
          · intro w hSw; (try dsimp only at hSw); go_simp; (try with_reducible rfl)
          try simp only [Act.put, List.setIfInBounds_toArray, List.set_cons_zero, List.set_cons_succ]
          refine wpAnyH_take (i := 7) (oi := ⟨some 40, _, _, _, _, _⟩) (v := ?_) rfl (by kernel_rfl) (by kernel_rfl) (by kernel_rfl) (fun _ _ _ h => h) (Or.inl ⟨by rfl, ?_⟩) (by assumption) ?_
          rotate_left
          · intro w hSw; obtain ⟨p0, p1, p2, p3⟩ := KP.out w hSw; (try dsimp only at hSw); go_simp; (try with_reducible rfl)
          try simp only [Act.put, List.setIfInBounds_toArray, List.set_cons_zero, List.set_cons_succ]
          refine wpAnyH_take (i := 8) (oi := ⟨some 41, _, _, _, _, _⟩) (v := ?_) rfl (by kernel_rfl) (by kernel_rfl) (by kernel_rfl) (fun _ _ _ h => h) (Or.inl ⟨by rfl, ?_⟩) (by assumption) ?_
          rotate_left
          · intro w hSw; (try dsimp only at hSw); go_simp; (try with_reducible rfl)
          try simp only [Act.put, List.setIfInBounds_toArray, List.set_cons_zero, List.set_cons_succ]
          refine wpAnyH_take (i := 9) (oi := ⟨some 42, _, _, _, _, _⟩) (v := ?_) rfl (by kernel_rfl) (by kernel_rfl) (by kernel_rfl) (fun _ _ _ h => h) (Or.inl ⟨by rfl, ?_⟩) (by assumption) ?_
          rotate_left
          · intro w hSw; (try dsimp only at hSw); go_simp; (try with_reducible rfl)
          try simp only [Act.put, List.setIfInBounds_toArray, List.set_cons_zero, List.set_cons_succ]
          refine wpAnyH_take (i := 10) (oi := ⟨some 43, _, _, _, _, _⟩) (v := bfV x Ao co Ab cb Ar cr) rfl (by kernel_rfl) (by kernel_rfl) (by kernel_rfl) (fun _ _ _ h => h) (yieldsIf_bf (by rfl) _ rfl ⟨wr.heap.size, 0, none⟩ rfl x Ao co Ab cb Ar cr (fun w h => (M1.out.keep h s1).at)) (by assumption) ?_
          try simp only [Act.put, List.setIfInBounds_toArray, List.set_cons_zero, List.set_cons_succ]
          refine wpAnyH_take (i := 13) (oi := ⟨some 46, _, _, _, _, _⟩) (v := ?_) rfl (by kernel_rfl) (by kernel_rfl) (by kernel_rfl) (fun _ _ _ h => h) (Or.inl ⟨by rfl, ?_⟩) (by assumption) ?_
          rotate_left
          · intro w hSw; (try dsimp only at hSw); go_simp; (try with_reducible rfl)
          try simp only [Act.put, List.setIfInBounds_toArray, List.set_cons_zero, List.set_cons_succ]
          refine wpAnyH_ready (rs := [11]) (by kernel_rfl) (by simp) (AllReadyH.cons (o := ⟨some 44, _, _, _, _, _⟩) rfl (fun Kc hKc => ?_) AllReadyH.nil)
          go_simp
          go_at_call 30; refine (cnameOf x Ao co Ab cb Ar cr _).mono ?_; rintro e w' ⟨rfl, hcall⟩; dsimp only
          refine hKc.out _ _ (hHeld.trans (hcall.mono hHeld.size)) (fun hHeld => ?_)
          clear hKc Kc
          try simp only [Act.put, List.setIfInBounds_toArray, List.set_cons_zero, List.set_cons_succ]
          refine wpAnyH_ready (rs := [12]) (by kernel_rfl) (by simp) (AllReadyH.cons (o := ⟨some 45, _, _, _, _, _⟩) rfl (fun Kc hKc => ?_) AllReadyH.nil)
          go_simp
          go_at_call 19; refine (cfindN (p.list.take k) (some ad) c k HK.out (nmB x) kf HKF.out _ V (HLT.out.at (y1.trans (hHeld.mono y1.size)))).mono ?_; rintro e w' ⟨rfl, hcall⟩; dsimp only
          refine hKc.out _ _ (hHeld.trans (hcall.mono hHeld.size)) (fun hHeld => ?_)
          clear hKc Kc
          try simp only [Act.put, List.setIfInBounds_toArray, List.set_cons_zero, List.set_cons_succ]
          refine wpAnyH_take (i := 14) (oi := ⟨some 47, _, _, _, _, _⟩) (v := ?_) rfl (by kernel_rfl) (by kernel_rfl) (by kernel_rfl) (fun _ _ _ h => h) (Or.inl ⟨by rfl, ?_⟩) (by assumption) ?_
          rotate_left
          · intro w hSw; (try dsimp only at hSw); go_simp; (try with_reducible rfl)
          try simp only [Act.put, List.setIfInBounds_toArray, List.set_cons_zero, List.set_cons_succ]
          refine wpAnyH_take (i := 15) (oi := ⟨some 48, _, _, _, _, _⟩) (v := ?_) rfl (by kernel_rfl) (by kernel_rfl) (by kernel_rfl) (fun _ _ _ h => h) (Or.inl ⟨by rfl, ?_⟩) (by assumption) ?_
          rotate_left
          · intro w hSw; (try dsimp only at hSw); go_simp; (try with_reducible rfl)
          try simp only [Act.put, List.setIfInBounds_toArray, List.set_cons_zero, List.set_cons_succ]
          refine wpAnyH_done (by kernel_rfl) ?_ _
          have xF := y1.trans (hHeld.mono y1.size)
          clear hcall hHeld
          go_wp2
          go_ret
          exact ⟨ret_bool (by rw [HBAD.out (by rw [HPS.out]; simp [hl])]), b0.trans (xF.mono b0.size)⟩
        · have t14 : ¬ (kf : Int) < (k : Int) := by omega
          try simp only [Act.put, List.setIfInBounds_toArray, List.set_cons_zero, List.set_cons_succ]
          refine wp_region_held_drew (S := fun Y => Below W3.heap.size W3 Y) (by kernel_rfl) ?_ (fun hHeld => ?_)
          · exact below_drew (Below.refl _ _)
          refine wpAnyH_take (i := 0) (oi := ⟨some 33, _, _, _, _, _⟩) (v := bfV x Ao co Ab cb Ar cr) rfl (by kernel_rfl) (by kernel_rfl) (by kernel_rfl) (fun _ _ _ h => h) (yieldsIf_bf (by rfl) _ rfl ⟨wr.heap.size, 0, none⟩ rfl x Ao co Ab cb Ar cr (fun w h => (M1.out.keep h s1).at)) (by assumption) ?_
          try simp only [Act.put, List.setIfInBounds_toArray, List.set_cons_zero, List.set_cons_succ]
          refine wpAnyH_take (i := 1) (oi := ⟨some 34, _, _, _, _, _⟩) (v := ?_) rfl (by kernel_rfl) (by kernel_rfl) (by kernel_rfl) (fun _ _ _ h => h) (Or.inl ⟨by rfl, ?_⟩) (by assumption) ?_
          rotate_left
          · intro w hSw; (try dsimp only at hSw); go_simp; (try with_reducible rfl)
          try simp only [Act.put, List.setIfInBounds_toArray, List.set_cons_zero, List.set_cons_succ]
          refine wpAnyH_take (i := 2) (oi := ⟨some 35, _, _, _, _, _⟩) (v := ?_) rfl (by kernel_rfl) (by kernel_rfl) (by kernel_rfl) (fun _ _ _ h => h) (Or.inl ⟨by rfl, ?_⟩) (by assumption) ?_
          rotate_left
          · intro w hSw; obtain ⟨p0, p1, p2, p3⟩ := KP.out w hSw; (try dsimp only at hSw); go_simp; (try with_reducible rfl)
          try simp only [Act.put, List.setIfInBounds_toArray, List.set_cons_zero, List.set_cons_succ]
          refine wpAnyH_ready (rs := [3]) (by kernel_rfl) (by simp) (AllReadyH.cons (o := ⟨some 36, _, _, _, _, _⟩) rfl (fun Kc hKc => ?_) AllReadyH.nil)
          go_simp
          go_at_call 29; refine (crightBuffer x Ao co Ab cb Ar cr p.now true hg _ V (HB.out.at hHeld)).mono ?_; rintro e w' ⟨rfl, hcall⟩; dsimp only
          refine hKc.out _ _ (hHeld.trans (hcall.mono hHeld.size)) (fun hHeld => ?_)
          clear hKc Kc
          try simp only [Act.put, List.setIfInBounds_toArray, List.set_cons_zero, List.set_cons_succ]
          refine wpAnyH_take (i := 4) (oi := ⟨some 37, _, _, _, _, _⟩) (v := ?_) rfl (by kernel_rfl) (by kernel_rfl) (by kernel_rfl) (fun _ _ _ h => h) (Or.inl ⟨by rfl, ?_⟩) (by assumption) ?_
          rotate_left
          · intro w hSw; (try dsimp only at hSw); go_simp; (try with_reducible rfl)
          try simp only [Act.put, List.setIfInBounds_toArray, List.set_cons_zero, List.set_cons_succ]
          refine wpAnyH_take (i := 5) (oi := ⟨some 38, _, _, _, _, _⟩) (v := ?_) rfl (by kernel_rfl) (by kernel_rfl) (by kernel_rfl) (fun _ _ _ h => h) (Or.inl ⟨by rfl, ?_⟩) (by assumption) ?_
          rotate_left
          · intro w hSw; (try dsimp only at hSw); go_simp; (try with_reducible rfl)
          try simp only [Act.put, List.setIfInBounds_toArray, List.set_cons_zero, List.set_cons_succ]
          refine wpAnyH_take (i := 6) (oi := ⟨some 39, _, _, _, _, _⟩) (v := ?_) rfl (by kernel_rfl) (by kernel_rfl) (by kernel_rfl) (fun _ _ _ h => h) (Or.inl ⟨by rfl, ?_⟩) (by assumption) ?_
          rotate_left
          · intro w hSw; (try dsimp only at hSw); go_simp; (try with_reducible rfl)
          try simp only [Act.put, List.setIfInBounds_toArray, List.set_cons_zero, List.set_cons_succ]
          refine wpAnyH_take (i := 7) (oi := ⟨some 40, _, _, _, _, _⟩) (v := ?_) rfl (by kernel_rfl) (by kernel_rfl) (by kernel_rfl) (fun _ _ _ h => h) (Or.inl ⟨by rfl, ?_⟩) (by assumption) ?_
          rotate_left
          · intro w hSw; obtain ⟨p0, p1, p2, p3⟩ := KP.out w hSw; (try dsimp only at hSw); go_simp; (try with_reducible rfl)
          try simp only [Act.put, List.setIfInBounds_toArray, List.set_cons_zero, List.set_cons_succ]
          refine wpAnyH_take (i := 8) (oi := ⟨some 41, _, _, _, _, _⟩) (v := ?_) rfl (by kernel_rfl) (by kernel_rfl) (by kernel_rfl) (fun _ _ _ h => h) (Or.inl ⟨by rfl, ?_⟩) (by assumption) ?_
          rotate_left
          · intro w hSw; (try dsimp only at hSw); go_simp; (try with_reducible rfl)
          try simp only [Act.put, List.setIfInBounds_toArray, List.set_cons_zero, List.set_cons_succ]
          refine wpAnyH_take (i := 9) (oi := ⟨some 42, _, _, _, _, _⟩) (v := ?_) rfl (by kernel_rfl) (by kernel_rfl) (by kernel_rfl) (fun _ _ _ h => h) (Or.inl ⟨by rfl, ?_⟩) (by assumption) ?_
          rotate_left
          · intro w hSw; (try dsimp only at hSw); go_simp; (try with_reducible rfl)
          try simp only [Act.put, List.setIfInBounds_toArray, List.set_cons_zero, List.set_cons_succ]
          refine wpAnyH_take (i := 10) (oi := ⟨some 43, _, _, _, _, _⟩) (v := bfV x Ao co Ab cb Ar cr) rfl (by kernel_rfl) (by kernel_rfl) (by kernel_rfl) (fun _ _ _ h => h) (yieldsIf_bf (by rfl) _ rfl ⟨wr.heap.size, 0, none⟩ rfl x Ao co Ab cb Ar cr (fun w h => (M1.out.keep h s1).at)) (by assumption) ?_
          try simp only [Act.put, List.setIfInBounds_toArray, List.set_cons_zero, List.set_cons_succ]
          refine wpAnyH_take (i := 13) (oi := ⟨some 46, _, _, _, _, _⟩) (v := ?_) rfl (by kernel_rfl) (by kernel_rfl) (by kernel_rfl) (fun _ _ _ h => h) (Or.inl ⟨by rfl, ?_⟩) (by assumption) ?_
          rotate_left
          · intro w hSw; (try dsimp only at hSw); go_simp; (try with_reducible rfl)
          try simp only [Act.put, List.setIfInBounds_toArray, List.set_cons_zero, List.set_cons_succ]
          refine wpAnyH_ready (rs := [11]) (by kernel_rfl) (by simp) (AllReadyH.cons (o := ⟨some 44, _, _, _, _, _⟩) rfl (fun Kc hKc => ?_) AllReadyH.nil)
          go_simp
          go_at_call 30; refine (cnameOf x Ao co Ab cb Ar cr _).mono ?_; rintro e w' ⟨rfl, hcall⟩; dsimp only
          refine hKc.out _ _ (hHeld.trans (hcall.mono hHeld.size)) (fun hHeld => ?_)
          clear hKc Kc
          try simp only [Act.put, List.setIfInBounds_toArray, List.set_cons_zero, List.set_cons_succ]
          refine wpAnyH_ready (rs := [12]) (by kernel_rfl) (by simp) (AllReadyH.cons (o := ⟨some 45, _, _, _, _, _⟩) rfl (fun Kc hKc => ?_) AllReadyH.nil)
          go_simp
          go_at_call 19; refine (cfindN (p.list.take k) (some ad) c k HK.out (nmB x) kf HKF.out _ V (HLT.out.at (y1.trans (hHeld.mono y1.size)))).mono ?_; rintro e w' ⟨rfl, hcall⟩; dsimp only
          refine hKc.out _ _ (hHeld.trans (hcall.mono hHeld.size)) (fun hHeld => ?_)
          clear hKc Kc
          try simp only [Act.put, List.setIfInBounds_toArray, List.set_cons_zero, List.set_cons_succ]
          refine wpAnyH_take (i := 14) (oi := ⟨some 47, _, _, _, _, _⟩) (v := ?_) rfl (by kernel_rfl) (by kernel_rfl) (by kernel_rfl) (fun _ _ _ h => h) (Or.inl ⟨by rfl, ?_⟩) (by assumption) ?_
          rotate_left
          · intro w hSw; (try dsimp only at hSw); go_simp; (try with_reducible rfl)
          try simp only [Act.put, List.setIfInBounds_toArray, List.set_cons_zero, List.set_cons_succ]
          refine wpAnyH_take (i := 15) (oi := ⟨some 48, _, _, _, _, _⟩) (v := ?_) rfl (by kernel_rfl) (by kernel_rfl) (by kernel_rfl) (fun _ _ _ h => h) (Or.inl ⟨by rfl, ?_⟩) (by assumption) ?_
          rotate_left
          · intro w hSw; (try dsimp only at hSw); go_simp; (try with_reducible rfl)
          try simp only [Act.put, List.setIfInBounds_toArray, List.set_cons_zero, List.set_cons_succ]
          refine wpAnyH_done (by kernel_rfl) ?_ _
          have xF := y1.trans (hHeld.mono y1.size)
          clear hcall hHeld
          go_wp2
          go_round
          case rel => exact ⟨k + 1, by omega, by go_num, Go.Lib.hid (by rw [HPS.out, hg]; simp [hl]), xF⟩
          case measure => simp [intOf]; omega
    · obtain rfl : k = p.list.length := by omega
      have HQ3 : Hid (q = decide ((heldP p : Int) ≤ p.room)) := Go.Lib.hid (by rw [HQ2.out, HT.out]; rfl)
      clear HT HQ2
      go_upto_region 11 with fail
      generalize hW1 : wr = W1 at *
      clear hW1
      have KP : Hid (∀ Y, Below W1.heap.size W1 Y → Y.cell? ⟨w.heap.size, 0, none⟩ = some (.int .i64 p.room) ∧ Y.cell? ⟨w.heap.size, 1, none⟩ = some (.int .i64 p.life) ∧ Y.cell? ⟨w.heap.size, 2, none⟩ = some (.int .i64 p.now) ∧ Y.cell? ⟨w.heap.size, 3, none⟩ = some (.slice A p.list.length c)) := Go.Lib.hid fun Y y => M0.out.keep (x1.trans (y.mono x1.size)) s0
      try simp only [Act.put, List.setIfInBounds_toArray, List.set_cons_zero, List.set_cons_succ]
      refine wp_region_held_drew (S := fun Y => Below W1.heap.size W1 Y) (by kernel_rfl) ?_ (fun hHeld => ?_)
      · exact below_drew (Below.refl _ _)
      refine wpAnyH_take (i := 0) (oi := ⟨some 50, _, _, _, _, _⟩) (v := ?_) rfl (by kernel_rfl) (by kernel_rfl) (by kernel_rfl) (fun _ _ _ h => h) (Or.inl ⟨by rfl, ?_⟩) (by assumption) ?_
      rotate_left
      · intro w hSw; obtain ⟨p0, p1, p2, p3⟩ := KP.out w hSw; (try dsimp only at hSw); go_simp; (try with_reducible rfl)
      try simp only [Act.put, List.setIfInBounds_toArray, List.set_cons_zero, List.set_cons_succ]
      refine wpAnyH_take (i := 2) (oi := ⟨some 52, _, _, _, _, _⟩) (v := ?_) rfl (by kernel_rfl) (by kernel_rfl) (by kernel_rfl) (fun _ _ _ h => h) (Or.inl ⟨by rfl, ?_⟩) (by assumption) ?_
      rotate_left
      · intro w hSw; (try dsimp only at hSw); go_simp; (try with_reducible rfl)
      try simp only [Act.put, List.setIfInBounds_toArray, List.set_cons_zero, List.set_cons_succ]
      refine wpAnyH_take (i := 3) (oi := ⟨some 53, _, _, _, _, _⟩) (v := ?_) rfl (by kernel_rfl) (by kernel_rfl) (by kernel_rfl) (fun _ _ _ h => h) (Or.inl ⟨by rfl, ?_⟩) (by assumption) ?_
      rotate_left
      · intro w hSw; obtain ⟨p0, p1, p2, p3⟩ := KP.out w hSw; (try dsimp only at hSw); go_simp; (try with_reducible rfl)
      try simp only [Act.put, List.setIfInBounds_toArray, List.set_cons_zero, List.set_cons_succ]
      refine wpAnyH_ready (rs := [1]) (by kernel_rfl) (by simp) (AllReadyH.cons (o := ⟨some 51, _, _, _, _, _⟩) rfl (fun Kc hKc => ?_) AllReadyH.nil)
      go_simp
      go_at_call 11; refine (cheld p A c _ V (HP.out.at (x1.trans (hHeld.mono x1.size))) hF).mono ?_; rintro e w' ⟨rfl, hcall⟩; dsimp only
      refine hKc.out _ _ (hHeld.trans (hcall.mono hHeld.size)) (fun hHeld => ?_)
      clear hKc Kc
      try simp only [Act.put, List.setIfInBounds_toArray, List.set_cons_zero, List.set_cons_succ]
      refine wpAnyH_take (i := 4) (oi := ⟨some 54, _, _, _, _, _⟩) (v := ?_) rfl (by kernel_rfl) (by kernel_rfl) (by kernel_rfl) (fun _ _ _ h => h) (Or.inl ⟨by rfl, ?_⟩) (by assumption) ?_
      rotate_left
      · intro w hSw; (try dsimp only at hSw); go_simp; (try with_reducible rfl)
      try simp only [Act.put, List.setIfInBounds_toArray, List.set_cons_zero, List.set_cons_succ]
      refine wpAnyH_take (i := 5) (oi := ⟨some 2, _, _, _, _, _⟩) (v := ?_) rfl (by kernel_rfl) (by kernel_rfl) (by kernel_rfl) (fun _ _ _ h => h) (Or.inl ⟨by rfl, ?_⟩) (by assumption) ?_
      rotate_left
      · intro w hSw; (try dsimp only at hSw); go_simp; (try with_reducible rfl)
      try simp only [Act.put, List.setIfInBounds_toArray, List.set_cons_zero, List.set_cons_succ]
      refine wpAnyH_done (by kernel_rfl) ?_ _
      go_wp2
      go_ret
      exact ⟨ret_bool (by rw [HQ3.out]), b0.trans ((x1.trans (hHeld.mono x1.size)).mono b0.size)⟩
end Go.Proofs.Ythejakbjekjhjaa

/- The contract of package reasm's New. -/
namespace Go.Proofs.Ythejakbjekjhjaa
open Go.ChangeShapes Go.WideShapes Go.ChangeAt Go.RowKit
set_option linter.unusedVariables false
set_option linter.unusedSimpArgs false

theorem po_empty (w : World) (V : Nat → Prop) (room life now : Int) (lt : ∀ b, V b → b < w.heap.size) : PoAt w V ⟨room, life, now, []⟩ none 0 := ⟨⟨by simp, by omega, fun _ => rfl, .inl rfl⟩, lt⟩
theorem grow_lt {V : Nat → Prop} {w w' : World} (h : ∀ b, V b → b < w.heap.size) (hb : w.heap.size ≤ w'.heap.size) : ∀ b, growV V w w' b → b < w'.heap.size := fun b h' => by
  rcases h' with h' | h'
  · exact Nat.lt_of_lt_of_le (h b h') hb
  · exact h'.2
set_option maxRecDepth 100000 in
set_option maxHeartbeats 4000000 in
theorem cnew : NewC := by
  intro room life w p err hp
  have HP := Go.Lib.hid hp
  clear hp
  have hfew : FewP ⟨room, life, 0, []⟩ := by unfold FewP heldP heldL; omega
  go_enter Try.func7, Try.ntmps7
  go_upto_region 2 with fail
  have y0 : Below w.heap.size w ((w.alloc (oPo ⟨0, 0, 0, []⟩ none 0)).alloc (oPo ⟨room, life, 0, []⟩ none 0)) := below_alloc (below_alloc (Below.refl _ _) (Nat.le_refl _) _) (by simp) _
  have hr : rightP ⟨room, life, 0, []⟩ = decide (1 ≤ room ∧ room ≤ 1048576 ∧ 1 ≤ life ∧ life ≤ 1048576) := by
    rw [rightP_code, Bool.eq_iff_iff]
    simp only [inB, prefB, heldP, heldL, List.length_nil, List.take_nil, List.all_nil, List.map_nil, Bool.and_eq_true, decide_eq_true_eq]
    constructor
    · rintro ⟨⟨a, b⟩, ⟨c, d⟩, _⟩; exact ⟨a, b, c, d⟩
    · rintro ⟨a, b, c, d⟩; exact ⟨⟨a, b⟩, ⟨c, d⟩, ⟨by decide, by decide⟩, by decide, ⟨trivial, List.nodup_nil⟩, decide_eq_true (show ((0 : Nat) : Int) ≤ room by omega)⟩
  have B4 : Bxo (w.alloc (oPo ⟨0, 0, 0, []⟩ none 0)) w.heap.size 27 (poL ⟨0, 0, 0, []⟩ none 0) := Bxo.made w _ _
  have B4' := B4.alloc (oPo ⟨room, life, 0, []⟩ none 0)
  have B6 : Bxo ((w.alloc (oPo ⟨0, 0, 0, []⟩ none 0)).alloc (oPo ⟨room, life, 0, []⟩ none 0)) (w.heap.size + 1) 27 (poL ⟨room, life, 0, []⟩ none 0) := by
    have := Bxo.made (w.alloc (oPo ⟨0, 0, 0, []⟩ none 0)) 27 (poL ⟨room, life, 0, []⟩ none 0)
    simpa using this
  clear B4
  generalize ((w.alloc (oPo ⟨0, 0, 0, []⟩ none 0)).alloc (oPo ⟨room, life, 0, []⟩ none 0)) = W at *
  have H4 := Go.Lib.hid B4'
  have H6 := Go.Lib.hid B6
  have l4 := B4'.lt
  have l6 := B6.lt
  clear B4' B6
  by_cases hN : 1 ≤ room ∧ room ≤ 1048576 ∧ 1 ≤ life ∧ life ≤ 1048576
  · rw [decide_eq_true hN] at hr
    have HE : (⟨room, life, 0, []⟩, 0) = (p, err) := by rw [← HP.out]; unfold newP; rw [if_pos hN]
    injection HE with he1 he2
    subst he1
    subst he2
    clear hN HP
    go_wp2_with (first
      | (refine wpList_load_box rfl 27 _ rfl (w.heap.size + 1) rfl (poL ⟨room, life, 0, []⟩ none 0) _ H6.out Try.underlying27 rfl info_po ?_)
      | (go_at_call 10; refine (cright ⟨room, life, 0, []⟩ none 0 W (fun _ => False) _ hr (po_empty W _ room life 0 (fun _ h => h.elim)) hfew).mono ?_; rintro e w1 ⟨rfl, y1⟩; have H4' := Go.Lib.hid (H4.out.keep y1 l4); have H6' := Go.Lib.hid (H6.out.keep y1 l6); dsimp only)
      | (refine wpList_load_box rfl 27 _ rfl (w.heap.size + 1) rfl (poL ⟨room, life, 0, []⟩ none 0) _ H6'.out Try.underlying27 rfl info_po ?_)
      | (refine wpList_store_box rfl 27 _ _ rfl w.heap.size 0 27 _ (poL ⟨room, life, 0, []⟩ none 0) rfl rfl H4'.out info_po (by show 0 + 4 ≤ 4; omega) (po_one _ _ _) ?_; intro w2 hb2 ho2; have HB2 := Go.Lib.hid hb2; clear hb2))
    have c0 := HB2.out.cell 0 rfl
    have c1 := HB2.out.cell 1 rfl
    have c2 := HB2.out.cell 2 rfl
    have c3 := HB2.out.cell 3 rfl
    have y2 : Below w.heap.size w w2 := (y0.trans (y1.mono (by omega))).trans (ho2.below (Nat.le_refl _))
    refine bodyPost_ret (v := .tuple #[poV ⟨room, life, 0, []⟩ none 0, .int .i64 0]) ?_ rfl ⟨none, 0, rfl, po_empty _ _ _ _ _ (grow_lt (fun _ h => h.elim) y2.size), y2⟩
    simp [results, Try.results7, go_sem, c0, c1, c2, c3]
  · rw [decide_eq_false hN] at hr
    have HE : (⟨0, 0, 0, []⟩, 1) = (p, err) := by rw [← HP.out]; unfold newP; rw [if_neg hN]
    injection HE with he1 he2
    subst he1
    subst he2
    clear hN HP
    go_wp2_with (first
      | (refine wpList_load_box rfl 27 _ rfl (w.heap.size + 1) rfl (poL ⟨room, life, 0, []⟩ none 0) _ H6.out Try.underlying27 rfl info_po ?_)
      | (go_at_call 10; refine (cright ⟨room, life, 0, []⟩ none 0 W (fun _ => False) _ hr (po_empty W _ room life 0 (fun _ h => h.elim)) hfew).mono ?_; rintro e w1 ⟨rfl, y1⟩; have H4' := Go.Lib.hid (H4.out.keep y1 l4); dsimp only)
      | (refine wpList_store_box rfl 27 _ _ rfl w.heap.size 0 27 _ (poL ⟨0, 0, 0, []⟩ none 0) rfl rfl H4'.out info_po (by show 0 + 4 ≤ 4; omega) (po_one _ _ _) ?_; intro w2 hb2 ho2; have HB2 := Go.Lib.hid hb2; clear hb2))
    have c0 := HB2.out.cell 0 rfl
    have c1 := HB2.out.cell 1 rfl
    have c2 := HB2.out.cell 2 rfl
    have c3 := HB2.out.cell 3 rfl
    have y2 : Below w.heap.size w w2 := (y0.trans (y1.mono (by omega))).trans (ho2.below (Nat.le_refl _))
    refine bodyPost_ret (v := .tuple #[poV ⟨0, 0, 0, []⟩ none 0, .int .i64 1]) ?_ rfl ⟨none, 0, rfl, po_empty _ _ _ _ _ (grow_lt (fun _ h => h.elim) y2.size), y2⟩
    simp [results, Try.results7, go_sem, c0, c1, c2, c3]
end Go.Proofs.Ythejakbjekjhjaa
