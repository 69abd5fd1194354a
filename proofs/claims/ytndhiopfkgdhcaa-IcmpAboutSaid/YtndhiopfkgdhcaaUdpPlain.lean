/- Datagrams and their bytes: plain mathematics. No condition beyond bounds. -/
import Derived.Test.YtndhiopfkgdhcaaTcpPlain2
namespace Go.Proofs.Ytndhiopfkgdhcaa
open Go.RowKit
set_option linter.unusedVariables false

structure Ud where
  sport : Int
  dport : Int
  nosum : Bool
  body : List UInt8
def Ud.empty : Ud := ⟨0, 0, false, []⟩
def sameU (a b : Ud) : Bool := a.sport == b.sport && (a.dport == b.dport && (a.nosum == b.nosum && a.body == b.body))
theorem sameU_iff (a b : Ud) : sameU a b = true ↔ a = b := by cases a; cases b; simp [sameU]
/-- a datagram's bytes, with a check sum. -/
def udB (u : Ud) (check : Int) : List UInt8 :=
  [b8 (u.sport / 256), b8 (u.sport % 256), b8 (u.dport / 256), b8 (u.dport % 256), b8 ((8 + (u.body.length : Int)) / 256), b8 ((8 + (u.body.length : Int)) % 256), b8 (check / 256), b8 (check % 256)] ++ u.body
theorem udB_length (u : Ud) (c : Int) : (udB u c).length = 8 + u.body.length := by simp [udB]; omega
/-- its check sum: none is 0, and of a sum that is 0 65535 is told. -/
def chkU0 (src dst : Int) (u : Ud) : Int := 65535 - sumT 17 src dst (udB u 0)
def chkU (src dst : Int) (u : Ud) : Int := if u.nosum then 0 else if chkU0 src dst u = 0 then 65535 else chkU0 src dst u
theorem chkU0_lo (src dst : Int) (u : Ud) : 0 ≤ chkU0 src dst u := by have := sumT_hi 17 src dst (udB u 0); unfold chkU0; omega
theorem chkU0_hi (src dst : Int) (u : Ud) : chkU0 src dst u ≤ 65535 := by have := sumT_lo 17 src dst (udB u 0); unfold chkU0; omega
theorem chkU_lo (src dst : Int) (u : Ud) : 0 ≤ chkU src dst u := by have := chkU0_lo src dst u; unfold chkU; split <;> (try split) <;> omega
theorem chkU_hi (src dst : Int) (u : Ud) : chkU src dst u ≤ 65535 := by have := chkU0_hi src dst u; unfold chkU; split <;> (try split) <;> omega
theorem chkU_zero (src dst : Int) (u : Ud) : chkU src dst u = 0 ↔ u.nosum = true := by
  have := chkU0_lo src dst u
  unfold chkU
  cases u.nosum <;> simp
  split <;> omega
def putU (src dst : Int) (u : Ud) : List UInt8 := udB u (chkU src dst u)
theorem putU_length (src dst : Int) (u : Ud) : (putU src dst u).length = 8 + u.body.length := udB_length _ _
structure MayU (u : Ud) : Prop where
  s0 : 0 ≤ u.sport
  s1 : u.sport ≤ 65535
  d0 : 0 ≤ u.dport
  d1 : u.dport ≤ 65535
  fit : u.body.length ≤ 65527
def mayU (u : Ud) : Bool := inB u.sport 65535 && (inB u.dport 65535 && decide (u.body.length ≤ 65527))
theorem mayU_iff (u : Ud) : mayU u = true ↔ MayU u := by
  unfold mayU inB
  simp only [Bool.and_eq_true, decide_eq_true_eq]
  exact ⟨fun ⟨⟨a, b⟩, ⟨c, d⟩, e⟩ => ⟨a, b, c, d, e⟩, fun h => ⟨⟨h.s0, h.s1⟩, ⟨h.d0, h.d1⟩, h.fit⟩⟩

def prsU (src dst : Int) (l : List UInt8) : Int × Ud :=
  if l.length < 8 then (2, Ud.empty)
  else if wd l 4 < 8 ∨ (l.length : Int) < wd l 4 then (4, Ud.empty)
  else if 0 < wd l 6 ∧ sumT 17 src dst (l.take (wd l 4).toNat) ≠ 65535 then (5, Ud.empty)
  else (0, ⟨wd l 0, wd l 2, wd l 6 == 0, (l.take (wd l 4).toNat).drop 8⟩)

theorem ud_bytes (u : Ud) (c : Int) (R : List UInt8) (h : MayU u) (c0 : 0 ≤ c) (c1 : c ≤ 65535) :
    wd (udB u c ++ R) 0 = u.sport ∧ wd (udB u c ++ R) 2 = u.dport ∧ wd (udB u c ++ R) 4 = 8 + (u.body.length : Int) ∧ wd (udB u c ++ R) 6 = c := by
  obtain ⟨s0, s1, d0, d1, fit⟩ := h
  unfold udB wd
  simp only [List.cons_append, List.nil_append, Nat.reduceAdd]
  refine ⟨?_, ?_, ?_, ?_⟩ <;> simp only [show ∀ (a : UInt8) (r : List UInt8), g8 (a :: r) 0 = (a.toNat : Int) from fun _ _ => rfl, show ∀ (a : UInt8) (r : List UInt8) (k : Nat), g8 (a :: r) (k + 1) = g8 r k from fun _ _ _ => rfl]
  all_goals (rw [b8_is _ (by omega) (by omega), b8_is _ (by omega) (by omega)]; omega)
theorem ud_set (u : Ud) (c : Int) : ((udB u 0).set 6 (b8 (c / 256))).set (6 + 1) (b8 (c % 256)) = udB u c := by
  unfold udB
  simp only [List.set_cons_succ, List.set_cons_zero, Nat.reduceAdd, List.cons_append, List.nil_append]
theorem tot_ud (u : Ud) (c : Int) (h0 : 0 ≤ c) (h1 : c ≤ 65535) : tot (udB u c) = tot (udB u 0) + c := by
  rw [← ud_set u c]
  have := tot_set 3 (udB u 0) (b8 (c / 256)) (b8 (c % 256)) (by rw [udB_length]; omega)
  simp only [Nat.reduceMul, Nat.reduceAdd] at this
  simp only [Nat.reduceAdd]
  have z : (udB u 0)[6]'(by rw [udB_length]; omega) = 0 := rfl
  have z1 : (udB u 0)[7]'(by rw [udB_length]; omega) = 0 := rfl
  rw [this, z, z1, b8_is _ (by omega) (by omega), b8_is _ (by omega) (by omega)]
  simp; omega
/-- the sum of what is put fits. -/
theorem sum_putU (src dst : Int) (u : Ud) (h : u.nosum = false) : sumT 17 src dst (putU src dst u) = 65535 := by
  have c0 := chkU_lo src dst u
  have c1 := chkU_hi src dst u
  have t0 := tot_lo (udB u 0)
  have p0 := pseudo_lo src dst 17 (((udB u 0).length : Nat) : Int)
  have hl : (putU src dst u).length = (udB u 0).length := by rw [putU_length, udB_length]
  unfold sumT
  rw [hl, show tot (putU src dst u) = tot (udB u 0) + chkU src dst u from tot_ud u _ c0 c1, fo_fo' _ _ p0 (by omega)]
  have hc : chkU0 src dst u = 65535 - fo (pseudo src dst 17 ((udB u 0).length : Int) + tot (udB u 0)) := by
    unfold chkU0 sumT; rw [fo_fo' _ _ p0 t0]
  have hs := stands (pseudo src dst 17 ((udB u 0).length : Int) + tot (udB u 0)) (by omega)
  unfold chkU
  rw [if_neg (by rw [h]; simp)]
  generalize pseudo src dst 17 ((udB u 0).length : Int) = P at *
  split
  · rename_i hz
    rw [hc] at hz
    have hf : fo (P + tot (udB u 0)) = 65535 := by omega
    rw [fo_top] at hf ⊢
    omega
  · rw [hc]
    rw [← hs]
    congr 1
    omega
/-- what is put is parsed as it was, whatever stands behind it. -/
theorem prs_putU (src dst : Int) (u : Ud) (R : List UInt8) (h : MayU u) : prsU src dst (putU src dst u ++ R) = (0, u) := by
  obtain ⟨g0, g2, g4, g6⟩ := ud_bytes u (chkU src dst u) R h (chkU_lo _ _ _) (chkU_hi _ _ _)
  have hl := putU_length src dst u
  have e : putU src dst u = udB u (chkU src dst u) := rfl
  have hk : (8 + (u.body.length : Int)).toNat = (putU src dst u).length := by omega
  unfold prsU
  rw [List.length_append, e, g4, g6, ← e]
  rw [if_neg (by omega), if_neg (by omega), hk, List.take_left]
  have hd : (putU src dst u).drop 8 = u.body := rfl
  rw [hd, e, g0, g2, ← e]
  cases hn : u.nosum with
  | true =>
    have hz := (chkU_zero src dst u).2 hn
    rw [if_neg (by omega), hz]
    show (0, _) = (0, u)
    rw [show ((0 : Int) == 0) = u.nosum from by rw [hn]; rfl]
  | false =>
    have hz : chkU src dst u ≠ 0 := fun h => by rw [(chkU_zero src dst u).1 h] at hn; cases hn
    rw [if_neg (by rw [sum_putU src dst u hn]; simp), show (chkU src dst u == 0) = u.nosum from by rw [hn]; simpa using hz]
theorem mayU_empty : MayU Ud.empty := ⟨by decide, by decide, by decide, by decide, by decide⟩
/-- what is read may be put, and is put as it was. -/
theorem prsU_ok (src dst : Int) (l : List UInt8) (h : (prsU src dst l).1 = 0) : MayU (prsU src dst l).2 ∧ (putU src dst (prsU src dst l).2).length ≤ l.length := by
  unfold prsU at h ⊢
  split at h
  · cases h
  · rename_i h1
    rw [if_neg h1]
    split at h
    · cases h
    · rename_i h2
      rw [if_neg h2]
      split at h
      · cases h
      · rename_i h3
        rw [if_neg h3]
        have := wd_hi l 4
        dsimp only
        rw [putU_length]
        dsimp only
        refine ⟨⟨wd_lo _ _, wd_hi _ _, wd_lo _ _, wd_hi _ _, ?_⟩, ?_⟩
        · dsimp only; rw [List.length_drop, List.length_take]; omega
        · rw [List.length_drop, List.length_take]; omega

theorem b8g (l : List UInt8) (k : Nat) (h : k < l.length) : b8 (g8 l k) = l[k] := by
  rw [g8_at l k h]
  apply UInt8.toNat_inj.1
  have := b8_is (l[k].toNat : Int) (by omega) (by have := l[k].toNat_lt; omega)
  omega
theorem take8 : ∀ (l : List UInt8), 8 ≤ l.length → l.take 8 = [b8 (g8 l 0), b8 (g8 l 1), b8 (g8 l 2), b8 (g8 l 3), b8 (g8 l 4), b8 (g8 l 5), b8 (g8 l 6), b8 (g8 l 7)] := by
  intro l h
  rw [b8g l 0 (by omega), b8g l 1 (by omega), b8g l 2 (by omega), b8g l 3 (by omega), b8g l 4 (by omega), b8g l 5 (by omega), b8g l 6 (by omega), b8g l 7 (by omega)]
  match l, h with
  | a :: b :: c :: d :: e :: f :: g :: i :: r, _ => rfl
theorem wd_hi' (l : List UInt8) (k : Nat) : wd l k / 256 = g8 l k := by have := g8_lo l (k + 1); have := g8_hi l (k + 1); unfold wd; omega
theorem wd_lo' (l : List UInt8) (k : Nat) : wd l k % 256 = g8 l (k + 1) := by have := g8_lo l (k + 1); have := g8_hi l (k + 1); unfold wd; omega
theorem g8_takeU (l : List UInt8) (n k : Nat) (h : k < n) : g8 (l.take n) k = g8 l k := by
  unfold g8
  rw [List.getD, List.getD, List.getElem?_take]
  simp [h]
theorem wd_takeU (l : List UInt8) (n k : Nat) (h : k + 1 < n) : wd (l.take n) k = wd l k := by
  unfold wd; rw [g8_takeU l n k (by omega), g8_takeU l n (k + 1) h]
theorem sumT_pos (src dst : Int) (hs : 0 ≤ src) (hd : 0 ≤ dst) (l : List UInt8) : 0 < pseudo src dst 17 ((l.length : Nat) : Int) + tot l := by
  have := tot_lo l
  have h : 0 < pseudo src dst 17 ((l.length : Nat) : Int) := by
    unfold pseudo fo
    rw [if_neg (by omega)]
    omega
  omega
/-- what is read is put as it was. -/
theorem prsU_back (src dst : Int) (hs : 0 ≤ src) (hd : 0 ≤ dst) (l : List UInt8) (h : (prsU src dst l).1 = 0) : putU src dst (prsU src dst l).2 = l.take (putU src dst (prsU src dst l).2).length := by
  obtain ⟨hM, hL⟩ := prsU_ok src dst l h
  unfold prsU at h
  split at h
  · cases h
  · rename_i h1
    split at h
    · cases h
    · rename_i h2
      split at h
      · cases h
      · rename_i h3
        have e : (prsU src dst l).2 = ⟨wd l 0, wd l 2, wd l 6 == 0, (l.take (wd l 4).toNat).drop 8⟩ := by
          unfold prsU; rw [if_neg h1, if_neg h2, if_neg h3]
        rw [e]
        have h4 := wd_hi l 4
        obtain ⟨n, hn⟩ : ∃ n : Nat, (n : Int) = wd l 4 := ⟨(wd l 4).toNat, by omega⟩
        have hnn : (wd l 4).toNat = n := by omega
        rw [hnn] at h3 ⊢
        have hb : ((l.take n).drop 8).length = n - 8 := by rw [List.length_drop, List.length_take]; omega
        rw [putU_length]
        dsimp only
        rw [hb, show 8 + (n - 8) = n by omega]
        have hcheck : chkU src dst ⟨wd l 0, wd l 2, wd l 6 == 0, (l.take n).drop 8⟩ = wd l 6 → putU src dst ⟨wd l 0, wd l 2, wd l 6 == 0, (l.take n).drop 8⟩ = l.take n := by
          intro hc
          unfold putU
          rw [hc]
          unfold udB
          dsimp only
          rw [hb, show (8 : Int) + ((n - 8 : Nat) : Int) = wd l 4 by omega]
          simp only [wd_hi', wd_lo', Nat.reduceAdd]
          have := take8 (l.take n) (by rw [List.length_take]; omega)
          rw [g8_takeU l n 0 (by omega), g8_takeU l n 1 (by omega), g8_takeU l n 2 (by omega), g8_takeU l n 3 (by omega), g8_takeU l n 4 (by omega), g8_takeU l n 5 (by omega), g8_takeU l n 6 (by omega), g8_takeU l n 7 (by omega)] at this
          rw [← this, List.take_append_drop]
        apply hcheck
        by_cases hz : wd l 6 = 0
        · rw [hz]; rfl
        · have hz6 := wd_lo l 6
          have hz7 := wd_hi l 6
          have hsum : sumT 17 src dst (l.take n) = 65535 := by
            by_cases hq : sumT 17 src dst (l.take n) = 65535
            · exact hq
            · exact absurd ⟨by omega, hq⟩ h3
          have hx : l.take n = udB ⟨wd l 0, wd l 2, wd l 6 == 0, (l.take n).drop 8⟩ (wd l 6) := by
            unfold udB
            dsimp only
            rw [hb, show (8 : Int) + ((n - 8 : Nat) : Int) = wd l 4 by omega]
            simp only [wd_hi', wd_lo', Nat.reduceAdd]
            have := take8 (l.take n) (by rw [List.length_take]; omega)
            rw [g8_takeU l n 0 (by omega), g8_takeU l n 1 (by omega), g8_takeU l n 2 (by omega), g8_takeU l n 3 (by omega), g8_takeU l n 4 (by omega), g8_takeU l n 5 (by omega), g8_takeU l n 6 (by omega), g8_takeU l n 7 (by omega)] at this
            rw [← this, List.take_append_drop]
          rw [hx] at hsum
          have hnb : (wd l 6 == 0) = false := by simpa using hz
          rw [hnb] at hsum ⊢
          generalize hu : (⟨wd l 0, wd l 2, false, (l.take n).drop 8⟩ : Ud) = u at hsum
          have hnu : u.nosum = false := by rw [← hu]
          unfold sumT at hsum
          have hl : (udB u (wd l 6)).length = (udB u 0).length := by rw [udB_length, udB_length]
          have p0 := pseudo_lo src dst 17 (((udB u 0).length : Nat) : Int)
          have t0 := tot_lo (udB u 0)
          have pp := sumT_pos src dst hs hd (udB u 0)
          rw [hl, tot_ud u _ hz6 hz7, fo_fo' _ _ p0 (by omega)] at hsum
          unfold chkU
          rw [if_neg (by rw [hnu]; simp)]
          have hc : chkU0 src dst u = 65535 - fo (pseudo src dst 17 ((udB u 0).length : Int) + tot (udB u 0)) := by
            unfold chkU0 sumT; rw [fo_fo' _ _ p0 t0]
          generalize pseudo src dst 17 ((udB u 0).length : Int) = P at *
          have hf := fo_hi (P + tot (udB u 0))
          have hl' := fo_lo (P + tot (udB u 0))
          rw [fo_top] at hsum
          have hfe : fo (P + tot (udB u 0)) = (P + tot (udB u 0) - 1) % 65535 + 1 := by unfold fo; rw [if_neg (by omega)]
          rw [hc, hfe]
          split <;> omega
/-- one byte that is another is seen, unless there is no sum then. -/
theorem spoiltU (src dst : Int) (u : Ud) (h : MayU u) (hn : u.nosum = false) (i : Nat) (b : UInt8) (hi : i < 8 + u.body.length) (h4 : i ≠ 4) (h5 : i ≠ 5) (hb : b ≠ (putU src dst u)[i]'(by rw [putU_length]; omega)) :
    (prsU src dst ((putU src dst u).set i b)).1 ≠ 0 ∨ ((prsU src dst ((putU src dst u).set i b)).2.nosum = true ∧ g8 ((putU src dst u).set i b) 6 = 0 ∧ g8 ((putU src dst u).set i b) 7 = 0) := by
  have hl := putU_length src dst u
  have hls : ((putU src dst u).set i b).length = 8 + u.body.length := by rw [List.length_set, hl]
  have g4 := (ud_bytes u (chkU src dst u) [] h (chkU_lo _ _ _) (chkU_hi _ _ _)).2.2.1
  rw [List.append_nil] at g4
  have e4 : wd ((putU src dst u).set i b) 4 = 8 + (u.body.length : Int) := by
    rw [← g4]
    show _ = wd (putU src dst u) 4
    unfold wd
    rw [g8_at _ 4 (by omega), g8_at _ 5 (by omega), g8_at _ 4 (by omega), g8_at _ 5 (by omega), List.getElem_set_ne h4, List.getElem_set_ne h5]
  have fit := h.fit
  have ht : ((putU src dst u).set i b).take (8 + (u.body.length : Int)).toNat = (putU src dst u).set i b := by
    rw [List.take_of_length_le (by omega)]
  unfold prsU
  rw [e4, if_neg (by omega), if_neg (by omega), ht]
  have hs := sum_one 17 src dst _ i b (by omega) hb (sum_putU src dst u hn)
  by_cases hz : wd ((putU src dst u).set i b) 6 = 0
  · right
    rw [if_neg (by omega), hz]
    have a := g8_lo ((putU src dst u).set i b) 6
    have c := g8_lo ((putU src dst u).set i b) 7
    simp only [wd, Nat.reduceAdd] at hz
    refine ⟨rfl, by omega, by omega⟩
  · left
    have := wd_lo ((putU src dst u).set i b) 6
    rw [if_pos ⟨by omega, hs⟩]
    simp
end Go.Proofs.Ytndhiopfkgdhcaa
