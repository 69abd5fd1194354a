/- The contract of package udp's measure; a world in which an empty datagram lies in the newest block. -/
import Derived.Test.YthikllbfkagdnaaUdpA5
import Derived.Test.YthikllbfkagdnaaClone
import Derived.Test.YthikllbfkagdnaaUdpR4
namespace Go.Proofs.Ythikllbfkagdnaa
open Go.ChangeShapes Go.WideShapes Go.ChangeAt Go.RowKit
set_option linter.unusedVariables false
set_option linter.unusedSimpArgs false

/-- what is told of a datagram's length. -/
def umE (l : List UInt8) : Int := if l.length < 8 then 2 else if wd l 4 < 8 ∨ (l.length : Int) < wd l 4 then 4 else 0
def umH (l : List UInt8) : Int := if umE l = 0 then wd l 4 else 0
theorem umE_ok {l : List UInt8} (h : umE l = 0) : 8 ≤ l.length ∧ 8 ≤ wd l 4 ∧ wd l 4 ≤ (l.length : Int) := by
  unfold umE at h
  split at h
  · cases h
  · split at h
    · cases h
    · omega
theorem prsU_meas {src dst : Int} {l : List UInt8} (h : umE l ≠ 0) : prsU src dst l = (umE l, Ud.empty) := by
  unfold umE at h ⊢
  unfold prsU
  split
  · rfl
  · split
    · rfl
    · rename_i h1 h2; rw [if_neg h1, if_neg h2] at h; exact absurd rfl h

set_option maxRecDepth 100000 in
set_option maxHeartbeats 1000000 in
theorem umeasure (A : Option Addr) (n c : Nat) (l : List UInt8) (B : Nat) (w : World) (hn : l.length = n) (h : Bs w B A l) (hn2 : n ≤ 16777216) :
    Calls Try.prog 26 #[.slice A n c] w fun e w' => e = .returned (.tuple #[.int .i64 (umH l), .int .i64 (umE l)]) ∧ ∃ m, w' = w.drewN m := by
  by_cases h8 : n < 8
  · have e : umE l = 2 := by unfold umE; rw [if_pos (by omega)]
    have e2 : umH l = 0 := by unfold umH; rw [e]; rfl
    rw [e, e2]
    clear e e2 hn h
    go_enter Try.func26, Try.ntmps26
    go_wp2
    go_ret2
    exact ⟨rfl, 0, rfl⟩
  have HN := Go.Lib.hid hn
  have HB := Go.Lib.hid h
  have b0 := wd_lo l 4
  have b1 := wd_hi l 4
  by_cases h3 : wd l 4 < 8 ∨ (n : Int) < wd l 4
  · have e : umE l = 4 := by unfold umE; rw [if_neg (by omega), if_pos (by rw [hn]; exact h3)]
    have e2 : umH l = 0 := by unfold umH; rw [e]; rfl
    rw [e, e2]
    obtain ⟨x, hx⟩ : ∃ x : Int, wd l 4 = x := ⟨_, rfl⟩
    rw [hx] at h3 b0 b1
    have HX := Go.Lib.hid hx
    have h3' : x < 8 ∨ (8 ≤ x ∧ (n : Int) < x) := by omega
    have y1 := IntWalk.i64_in x (by omega)
    clear e e2 hn h h3 hx
    rcases h3' with h3 | ⟨h3, h5⟩
    all_goals
      go_enter Try.func26, Try.ntmps26
      go_wp2_with fail
      refine (uword A n c l B _ HN.out HB.out 4 _ rfl (by omega) hn2).mono ?_
      rw [HX.out]
      rintro e w1 ⟨rfl, m, rfl⟩
      dsimp only
      go_wp2
      go_ret2
      exact ⟨rfl, _, rfl⟩
  · have e : umE l = 0 := by unfold umE; rw [if_neg (by omega), if_neg (by rw [hn]; exact h3)]
    have e2 : umH l = wd l 4 := by unfold umH; rw [e]; rfl
    rw [e, e2]
    obtain ⟨x, hx⟩ : ∃ x : Int, wd l 4 = x := ⟨_, rfl⟩
    rw [hx] at h3 b0 b1
    rw [hx]
    have HX := Go.Lib.hid hx
    have h4 : 8 ≤ x := by omega
    have h5 : x ≤ (n : Int) := by omega
    have y1 := IntWalk.i64_in x (by omega)
    clear e e2 hn h h3 hx
    go_enter Try.func26, Try.ntmps26
    go_wp2_with fail
    refine (uword A n c l B _ HN.out HB.out 4 _ rfl (by omega) hn2).mono ?_
    rw [HX.out]
    rintro e w1 ⟨rfl, m, rfl⟩
    dsimp only
    go_wp2
    go_ret2
    exact ⟨rfl, _, rfl⟩

/-- a world in which an empty datagram lies in the newest block. -/
abbrev Zu (w : World) : World := w.alloc (.cells #[.int .i64 0, .int .i64 0, .bool false, .slice none 0 0] 25)
theorem Zu.below {w X : World} (x : Below (w.heap.size + 1) (Zu w) X) : Below w.heap.size w X := ((Below.refl _ _).alloc (Nat.le_refl _) _).trans (x.mono (Nat.le_succ _))
theorem Zu.size {w X : World} (x : Below (w.heap.size + 1) (Zu w) X) : w.heap.size + 1 ≤ X.heap.size := by have := x.size; simpa using this
theorem zu_of {w w' : World} (h : Below (w.heap.size + 1) (Zu w) w') :
    (w'.cell? ⟨w.heap.size, 0, none⟩ = some (.int .i64 0) ∧ w'.cell? ⟨w.heap.size, 1, none⟩ = some (.int .i64 0) ∧ w'.cell? ⟨w.heap.size, 2, none⟩ = some (.bool false) ∧ w'.cell? ⟨w.heap.size, 3, none⟩ = some (.slice none 0 0)) ∧
    (∀ o, w'.frozen? ⟨w.heap.size, o, none⟩ = false) := by
  have hc := fun (o : Nat) => Below.cell h (p := ⟨w.heap.size, o, none⟩) (Nat.lt_succ_self _)
  refine ⟨⟨?_, ?_, ?_, ?_⟩, fun o => ?_⟩
  · refine (hc _).trans ?_; simp [go_sem]
  · refine (hc _).trans ?_; simp [go_sem]
  · refine (hc _).trans ?_; simp [go_sem]
  · refine (hc _).trans ?_; simp [go_sem]
  · refine (Below.frozen h (p := ⟨w.heap.size, o, none⟩) (Nat.lt_succ_self _)).trans ?_; simp [go_sem]
/-- four cells of block g are put. -/
abbrev set4 (w : World) (g : Nat) (u0 u1 u2 u3 : Value) : World := ((((w.setCell ⟨g, 0, none⟩ u0).setCell ⟨g, 1, none⟩ u1).setCell ⟨g, 2, none⟩ u2).setCell ⟨g, 3, none⟩ u3)
theorem below_s4 {C g : Nat} {a w : World} (h : Below C a w) (hg : C ≤ g) (u0 u1 u2 u3 : Value) : Below C a (set4 w g u0 u1 u2 u3) := (Below.setCell (Below.setCell (Below.setCell (Below.setCell h (p := ⟨g, 0, none⟩) hg u0) (p := ⟨g, 1, none⟩) hg u1) (p := ⟨g, 2, none⟩) hg u2) (p := ⟨g, 3, none⟩) hg u3)
theorem size_s4 (w : World) (g : Nat) (u0 u1 u2 u3 : Value) : (set4 w g u0 u1 u2 u3).heap.size = w.heap.size := by simp [set4]
theorem bs_far {w : World} {B : Nat} {A : Option Addr} {l : List UInt8} (h : Bs w B A l) {g : Nat} (hg : ∀ ad, A = some ad → g < ad.block) (k : Nat) (u : Value) : Bs (w.setCell ⟨g, k, none⟩ u) B A l := by
  rcases h with h | ⟨ad, rfl, hlt, hc⟩
  · exact .inl h
  · have hg := hg ad rfl
    refine .inr ⟨ad, rfl, hlt, fun j b hj => ?_⟩
    rw [World.cell?_setCell_other w _ _ u (fun e => by have := congrArg Addr.block e; simp [block_add] at this; omega)]
    exact hc j b hj
theorem bs_s4 {w : World} {B : Nat} {A : Option Addr} {l : List UInt8} (h : Bs w B A l) {g : Nat} (hg : ∀ ad, A = some ad → g < ad.block) (u0 u1 u2 u3 : Value) : Bs (set4 w g u0 u1 u2 u3) B A l :=
  bs_far (bs_far (bs_far (bs_far h hg 0 u0) hg 1 u1) hg 2 u2) hg 3 u3
theorem uword_x (A : Option Addr) (n c : Nat) (l : List UInt8) (w Y : World) (hn : l.length = n) (h : Bs w w.heap.size A l) (k : Nat) (ki : Int) (hki : ki = (k : Int)) (hk : k + 1 < n) (hn2 : n ≤ 16777216) (y : Below (w.heap.size + 1) (Zu w) Y) :
    Calls Try.prog 32 #[.slice A n c, .int .i64 ki] Y fun e w' => e = .returned (.int .u16 (wd l k)) ∧ Below (w.heap.size + 1) (Zu w) w' :=
  (uword A n c l w.heap.size Y hn (h.below (Zu.below y)) k ki hki hk hn2).mono fun _ _ ⟨a, m, b⟩ => ⟨a, b ▸ below_dn y m⟩
end Go.Proofs.Ythikllbfkagdnaa
