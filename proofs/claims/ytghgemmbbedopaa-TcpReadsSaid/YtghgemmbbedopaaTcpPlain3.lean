/- Options that are read first and asked whether they are right last: plain mathematics. -/
import Derived.Test.YtghgemmbbedopaaTcpPlain2
namespace Go.Proofs.Ytghgemmbbedopaa
open Go.RowKit
set_option linter.unusedVariables false

/-- the options of these bytes, behind those that came, right or not. -/
def rOpts : Nat → List UInt8 → List Op → Option (List Op)
  | 0, _, acc => some acc
  | _ + 1, [], acc => some acc
  | f + 1, k :: r, acc =>
    if k = 0 then some acc
    else if k = 1 then rOpts f r acc
    else
      match r with
      | [] => none
      | n :: r =>
        if n.toNat < 2 ∨ r.length < n.toNat - 2 then none
        else rOpts f (r.drop (n.toNat - 2)) (acc ++ [⟨(k.toNat : Int), r.take (n.toNat - 2)⟩])
/-- what was there ahead stays ahead. -/
theorem rOpts_ahead : ∀ (f : Nat) (l : List UInt8) (acc os : List Op), rOpts f l acc = some os → ∃ b, os = acc ++ b
  | 0, l, acc, os, e => by simp only [rOpts, Option.some.injEq] at e; exact ⟨[], by simp [e]⟩
  | f + 1, [], acc, os, e => by simp only [rOpts, Option.some.injEq] at e; exact ⟨[], by simp [e]⟩
  | f + 1, [k], acc, os, e => by
    rw [rOpts] at e
    split at e
    · simp only [Option.some.injEq] at e; exact ⟨[], by simp [e]⟩
    · split at e
      · exact rOpts_ahead f [] acc os e
      · simp at e
  | f + 1, k :: n :: r, acc, os, e => by
    rw [rOpts] at e
    split at e
    · simp only [Option.some.injEq] at e; exact ⟨[], by simp [e]⟩
    · split at e
      · exact rOpts_ahead f (n :: r) acc os e
      · split at e
        · simp at e
        · obtain ⟨b, hb⟩ := rOpts_ahead f _ _ os e
          exact ⟨_, by rw [hb, List.append_assoc]⟩
theorem pOpts_rOpts : ∀ (f : Nat) (l : List UInt8) (acc : List Op), rightB acc = true → pOpts f l acc = (match rOpts f l acc with | none => none | some os => if rightB os then some os else none)
  | 0, l, acc, h => by simp [rOpts, pOpts, h]
  | f + 1, [], acc, h => by simp [rOpts, pOpts, h]
  | f + 1, [k], acc, h => by
    rw [rOpts, pOpts]
    split
    · simp [h]
    · split
      · exact pOpts_rOpts f [] acc h
      · rfl
  | f + 1, k :: n :: r, acc, h => by
    rw [rOpts, pOpts]
    split
    · simp [h]
    · split
      · exact pOpts_rOpts f (n :: r) acc h
      · split
        · rfl
        · by_cases hr : rightB (acc ++ [⟨(k.toNat : Int), r.take (n.toNat - 2)⟩]) = true
          · rw [if_pos hr]; exact pOpts_rOpts f _ _ hr
          · rw [if_neg hr]
            cases e : rOpts f (r.drop (n.toNat - 2)) (acc ++ [⟨(k.toNat : Int), r.take (n.toNat - 2)⟩]) with
            | none => rfl
            | some os =>
              obtain ⟨b, hb⟩ := rOpts_ahead f _ _ os e
              have : ¬ rightB os = true := fun hos => hr (right_prefix _ b (hb ▸ hos))
              dsimp only
              rw [if_neg this]
/-- one step of the reading, by the bytes at a place. -/
theorem rOpts_end (f : Nat) (l : List UInt8) (p : Nat) (acc : List Op) (h : l.length ≤ p) : rOpts f (l.drop p) acc = some acc := by
  rw [List.drop_of_length_le h]; cases f <;> rfl
theorem rOpts_zero (f : Nat) (l : List UInt8) (p : Nat) (acc : List Op) (h : p < l.length) (h0 : g8 l p = 0) : rOpts (f + 1) (l.drop p) acc = some acc := by
  rw [g8_at l p h] at h0
  have e : l[p] = 0 := UInt8.toNat_inj.1 (by simp; omega)
  cases hd : l.drop (p + 1) with
  | nil => rw [List.drop_eq_getElem_cons h, hd, e, rOpts, if_pos rfl]
  | cons n r => rw [List.drop_eq_getElem_cons h, hd, e, rOpts, if_pos rfl]
theorem rOpts_one (f : Nat) (l : List UInt8) (p : Nat) (acc : List Op) (h : p < l.length) (h1 : g8 l p = 1) : rOpts (f + 1) (l.drop p) acc = rOpts f (l.drop (p + 1)) acc := by
  rw [g8_at l p h] at h1
  have e : l[p] = 1 := UInt8.toNat_inj.1 (by simp; omega)
  cases hd : l.drop (p + 1) with
  | nil => rw [List.drop_eq_getElem_cons h, hd, e, rOpts, if_neg (by decide), if_pos rfl]
  | cons n r => rw [List.drop_eq_getElem_cons h, hd, e, rOpts, if_neg (by decide), if_pos rfl]
theorem rOpts_bad (f : Nat) (l : List UInt8) (p : Nat) (acc : List Op) (h : p < l.length) (h0 : g8 l p ≠ 0) (h1 : g8 l p ≠ 1) (hb : l.length ≤ p + 1 ∨ g8 l (p + 1) < 2 ∨ (l.length : Int) < p + g8 l (p + 1)) : rOpts (f + 1) (l.drop p) acc = none := by
  rw [g8_at l p h] at h0 h1
  have e0 : ¬ l[p] = 0 := fun e => h0 (by rw [e]; rfl)
  have e1 : ¬ l[p] = 1 := fun e => h1 (by rw [e]; rfl)
  rw [List.drop_eq_getElem_cons h]
  by_cases hl : p + 1 < l.length
  · rw [List.drop_eq_getElem_cons hl, rOpts, if_neg e0, if_neg e1]
    rw [g8_at l (p + 1) hl] at hb
    rw [if_pos]
    rw [List.length_drop]
    rcases hb with hb | hb | hb
    · omega
    · left; omega
    · by_cases h2 : (l[p + 1]).toNat < 2
      · left; exact h2
      · right; omega
  · rw [List.drop_of_length_le (by omega), rOpts, if_neg e0, if_neg e1]
theorem rOpts_step (f : Nat) (l : List UInt8) (p : Nat) (acc : List Op) (n : Nat) (hn : (n : Int) = g8 l (p + 1)) (h : p + 1 < l.length) (h0 : g8 l p ≠ 0) (h1 : g8 l p ≠ 1) (h2 : 2 ≤ n) (h3 : p + n ≤ l.length) :
    rOpts (f + 1) (l.drop p) acc = rOpts f (l.drop (p + n)) (acc ++ [⟨g8 l p, (l.take (p + n)).drop (p + 2)⟩]) := by
  rw [g8_at l (p + 1) h] at hn
  have hk := g8_at l p (by omega)
  rw [hk] at h0 h1 ⊢
  have e0 : ¬ l[p] = 0 := fun e => h0 (by rw [e]; rfl)
  have e1 : ¬ l[p] = 1 := fun e => h1 (by rw [e]; rfl)
  have hn' : l[p + 1].toNat = n := by omega
  rw [List.drop_eq_getElem_cons (show p < l.length by omega), List.drop_eq_getElem_cons h, rOpts, if_neg e0, if_neg e1]
  rw [hn', if_neg (by rw [List.length_drop]; omega)]
  have d1 : (l.drop (p + 1 + 1)).drop (n - 2) = l.drop (p + n) := by rw [List.drop_drop]; congr 1; omega
  have d2 : (l.drop (p + 1 + 1)).take (n - 2) = (l.take (p + n)).drop (p + 2) := by rw [List.drop_take]; congr 1; omega
  rw [d1, d2]

/-- how long the head says that it is, if that fits; or the first error. -/
def tmE (l : List UInt8) : Int := if 65535 < l.length then 4 else if l.length < 20 then 2 else if tsz l < 20 ∨ (l.length : Int) < tsz l then 3 else 0
def tmH (l : List UInt8) : Int := if tmE l = 0 then tsz l else 0
theorem tmE_ok {l : List UInt8} (h : tmE l = 0) : l.length ≤ 65535 ∧ 20 ≤ l.length ∧ 20 ≤ tsz l ∧ tsz l ≤ l.length ∧ tsz l ≤ 60 := by
  unfold tmE at h
  split at h
  · cases h
  · split at h
    · cases h
    · split at h
      · cases h
      · have := g8_hi l 12
        have : tsz l = g8 l 12 / 16 * 4 := rfl
        omega
theorem prsT_meas {src dst : Int} {l : List UInt8} (h : tmE l ≠ 0) : prsT src dst l = (tmE l, Tc.empty) := by
  unfold prsT
  unfold tmE at h ⊢
  split
  · rfl
  · split
    · rfl
    · split
      · rfl
      · rename_i h1 h2 h3
        rw [if_neg h1, if_neg h2, if_neg h3] at h
        exact absurd rfl h
/-- what is read, the head's length and the sum being right. -/
theorem prsT_read {src dst : Int} {l : List UInt8} (h : tmE l = 0) (hs : sumT 6 src dst l = 65535) : prsT src dst l =
    (match rOpts 60 ((l.take (tsz l).toNat).drop 20) [] with
    | none => (6, Tc.empty)
    | some os => if rightB os = true then (0, ⟨wd l 0, wd l 2, ad4 l 4, ad4 l 8, g8 l 13, wd l 14, wd l 18, os, l.drop (tsz l).toNat⟩) else (6, Tc.empty)) := by
  obtain ⟨m1, m2, m3, m4, m5⟩ := tmE_ok h
  unfold prsT
  rw [if_neg (by omega), if_neg (by omega), if_neg (by omega), if_neg (by omega), pOpts_rOpts 60 _ [] right_nil]
  cases rOpts 60 ((l.take (tsz l).toNat).drop 20) [] with
  | none => rfl
  | some os =>
    dsimp only
    split <;> rename_i hr
    · split at hr
      · cases hr
      · rename_i hb; rw [if_neg hb]
    · split at hr
      · rename_i hb; rw [if_pos hb]; cases hr; rfl
      · cases hr
end Go.Proofs.Ytghgemmbbedopaa
