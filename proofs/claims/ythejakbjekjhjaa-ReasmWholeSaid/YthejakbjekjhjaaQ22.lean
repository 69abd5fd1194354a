/- Lemmas of layer 7, several texts in one. -/
import Derived.Test.YthejakbjekjhjaaQ19
/- The contract of the closure in package reasm's Tick. -/
namespace Go.Proofs.Ythejakbjekjhjaa
open Go.ChangeShapes Go.WideShapes Go.ChangeAt Go.RowKit
set_option linter.unusedVariables false
set_option linter.unusedSimpArgs false

/-- a packet is too old. -/
def oldB (now life : Int) (b : Bf) : Bool := decide (life ≤ now - b.born)
set_option maxRecDepth 100000 in
set_option maxHeartbeats 4000000 in
theorem cold (b : Bf) (Ao : Option Addr) (co : Nat) (Ab : Option Addr) (cb : Nat) (Ar : Option Addr) (cr : Nat) (now : Int) (p : Po) (A : Option Addr) (c gn gp : Nat) (w : World) (q : Bool) (hq : oldB now p.life b = q) (hn : Bxo w gn 3 [.int .i64 now]) (hp : Bxo w gp 27 (poL p A c)) (h : -9223372036854775808 ≤ now - b.born ∧ now - b.born ≤ 9223372036854775807) :
    Calls Try.prog 28 #[bfV b Ao co Ab cb Ar cr, .pointer (some ⟨gn, 0, none⟩), .pointer (some ⟨gp, 0, none⟩)] w fun e w' => e = .returned (.bool q) ∧ Below w.heap.size w w' := by
  have e1 := IntWalk.i64_in _ h
  have y0 : Below w.heap.size w (w.alloc (oBf b Ao co Ab cb Ar cr)) := (Below.refl _ _).alloc (Nat.le_refl _) _
  have h1 := Bxo.made w 42 (bfL b Ao co Ab cb Ar cr)
  have c0 := (hn.alloc (oBf b Ao co Ab cb Ar cr)).cell 0 rfl
  have c1 := (hp.alloc (oBf b Ao co Ab cb Ar cr)).cell 1 rfl
  have c4 := h1.cell 4 rfl
  have HQ := Go.Lib.hid hq
  clear hq hn hp
  go_enter Try.func28, Try.ntmps28
  go_upto_region 1 with fail
  generalize w.alloc (oBf b Ao co Ab cb Ar cr) = W at *
  go_wp2
  go_ret
  exact ⟨by rw [← HQ.out]; rfl, y0⟩
end Go.Proofs.Ythejakbjekjhjaa

/- The contract of slices.IndexFunc at packets that are put together with the closure of Tick. -/
namespace Go.Proofs.Ythejakbjekjhjaa
open Go.ChangeShapes Go.WideShapes Go.ChangeAt Go.RowKit
set_option linter.unusedVariables false
set_option linter.unusedSimpArgs false

/-- where the first is that is too old. -/
def idxB (now life : Int) (bs : List Bf) : Int := if bs.findIdx (oldB now life) < bs.length then (bs.findIdx (oldB now life) : Int) else -1
theorem idx_here (now life : Int) (bs : List Bf) (k : Nat) (hk : k < bs.length) (hp : ∀ j (h : j < bs.length), j < k → oldB now life bs[j] = false) (h : oldB now life bs[k] = true) : idxB now life bs = (k : Int) := by
  have e : bs.findIdx (oldB now life) = k := by
    rw [List.findIdx_eq hk]
    exact ⟨h, fun j hj => hp j (by omega) hj⟩
  unfold idxB
  rw [e, if_pos hk]
theorem idx_none (now life : Int) (bs : List Bf) (hp : ∀ j (h : j < bs.length), oldB now life bs[j] = false) : idxB now life bs = -1 := by
  have e : bs.findIdx (oldB now life) = bs.length := by
    rw [List.findIdx_eq_length]
    intro x hx
    obtain ⟨j, hj, rfl⟩ := List.getElem_of_mem hx
    exact hp j hj
  unfold idxB
  rw [e, if_neg (Nat.lt_irrefl _)]
set_option maxRecDepth 100000 in
set_option maxHeartbeats 4000000 in
theorem cindex (bs : List Bf) (A : Option Addr) (c : Nat) (now : Int) (p : Po) (A2 : Option Addr) (c2 gn gp : Nat) (w : World) (V : Nat → Prop) (hP : LsAt w V bs A c) (hn : Bxo w gn 3 [.int .i64 now]) (hp : Bxo w gp 27 (poL p A2 c2)) (hb : ∀ b ∈ bs, 0 ≤ b.born ∧ b.born ≤ 1099511627776) (n0 : 0 ≤ now) (n1 : now ≤ 1099511627776) :
    Calls Try.prog 48 #[.slice A bs.length c, .func (.func 28) #[] #[.pointer (some ⟨gn, 0, none⟩), .pointer (some ⟨gp, 0, none⟩)]] w fun e w' => e = .returned (.int .i64 (idxB now p.life bs)) ∧ Below w.heap.size w w' := by
  have HP := Go.Lib.hid hP
  have HN := Go.Lib.hid hn
  have HPB := Go.Lib.hid hp
  have HB := Go.Lib.hid hb
  have oc := hP.is.len
  have oc2 := hP.is.cap
  dsimp only at oc
  clear hP hn hp hb
  go_enter Try.func48, Try.ntmps48
  go_wp2
  go_loopw [8] (fun i wr => ∃ k : Nat, k ≤ bs.length ∧ i = .int .i64 k ∧ Hid (∀ j (h : j < bs.length), j < k → oldB now p.life bs[j] = false) ∧ Below w.heap.size w wr) (fun i _ => bs.length - (intOf i).toNat)
  case atStart => exact ⟨0, by omega, rfl, Go.Lib.hid (fun j _ h => by omega), Below.refl _ _⟩
  case round =>
    obtain ⟨k, hk, rfl, HT, x1⟩ := hrel
    by_cases hlt : k < bs.length
    · obtain ⟨ad, Ao, co, Ab, cb, Ar, cr, rfl, hb, hc⟩ := (HP.out.at x1).is.fs.at_ hlt
      have i1 : (0 : Int) ≤ (k : Int) := by omega
      have i2 : (k : Int) < (bs.length : Int) := by omega
      have HC := Go.Lib.hid hc.all
      clear hc
      dsimp only at HC
      have HY : Hid (∀ x, bs[k] = x → oldB now p.life x = true → idxB now p.life bs = (k : Int)) := Go.Lib.hid (fun x h e => idx_here _ _ bs k hlt HT.out (by rw [h]; exact e))
      have HZ : Hid (∀ x, bs[k] = x → oldB now p.life x = false → ∀ j (h : j < bs.length), j < k + 1 → oldB now p.life bs[j] = false) := Go.Lib.hid (fun x h e j hj hjk => by
        by_cases h' : j = k
        · subst h'; rw [h]; exact e
        · exact HT.out j hj (by omega))
      have HBK : Hid (∀ x, bs[k] = x → 0 ≤ x.born ∧ x.born ≤ 1099511627776) := Go.Lib.hid (fun x h => HB.out x (h ▸ List.getElem_mem hlt))
      generalize hr : bs[k] = x at *
      have HY2 := Go.Lib.hid (HY.out x rfl)
      have HZ2 := Go.Lib.hid (HZ.out x rfl)
      have hbn := HBK.out x rfl
      clear HY HZ HBK hr HT
      obtain ⟨hb0, hb1⟩ := hbn
      cases hq : oldB now p.life x
      · have HQ := Go.Lib.hid hq
        clear hq
        go_wp2_with (first
          | (refine wpList_load_bf rfl _ rfl (ad.add (k * 19)) rfl x Ao co Ab cb Ar cr HC.out ?_)
          | (go_at_call 28; refine (cold x Ao co Ab cb Ar cr now p A2 c2 gn gp _ false HQ.out (HN.out.keep x1 HN.out.lt) (HPB.out.keep x1 HPB.out.lt) (by omega)).mono ?_; rintro e w' ⟨rfl, hcall⟩; dsimp only))
        go_round
        case rel => exact ⟨k + 1, by omega, by go_num, Go.Lib.hid (HZ2.out HQ.out), x1.trans (hcall.mono x1.size)⟩
        case measure => simp [intOf]; omega
      · have HQ := Go.Lib.hid hq
        clear hq
        go_wp2_with (first
          | (refine wpList_load_bf rfl _ rfl (ad.add (k * 19)) rfl x Ao co Ab cb Ar cr HC.out ?_)
          | (go_at_call 28; refine (cold x Ao co Ab cb Ar cr now p A2 c2 gn gp _ true HQ.out (HN.out.keep x1 HN.out.lt) (HPB.out.keep x1 HPB.out.lt) (by omega)).mono ?_; rintro e w' ⟨rfl, hcall⟩; dsimp only))
        go_ret
        exact ⟨by rw [HY2.out HQ.out]; rfl, x1.trans (hcall.mono x1.size)⟩
    · have i2 : ¬ (k : Int) < (bs.length : Int) := by omega
      go_wp2
      go_ret
      exact ⟨by rw [idx_none _ _ bs (fun j h => HT.out j h (by omega))]; rfl, x1⟩
end Go.Proofs.Ythejakbjekjhjaa
