/- Lemmas, several texts in one. -/
import Derived.Test.YtmgkkgpdnopeaaaQ01
import Derived.Laws.Bits
import Derived.Deep.MidRow
import Derived.Deep.WholeRow
/- A packet is read from its bytes as it was put, and what is read is put as it was: plain mathematics. -/
namespace Go.Proofs.Ytmgkkgpdnopeaaa
open Go.RowKit
set_option linter.unusedVariables false

theorem b8i (n : Int) (h0 : 0 ≤ n) (h1 : n ≤ 255) : ((b8 n).toNat : Int) = n := b8_is n h0 h1
theorem g8_cons0 (a : UInt8) (r : List UInt8) : g8 (a :: r) 0 = (a.toNat : Int) := rfl
theorem g8_cons (a : UInt8) (r : List UInt8) (k : Nat) : g8 (a :: r) (k + 1) = g8 r k := rfl

theorem hd_set (p : Pk) (c : Int) : ((hd p 0).set 10 (b8 (c / 256))).set (10 + 1) (b8 (c % 256)) = hd p c := by
  unfold hd hd20
  simp only [List.set_cons_succ, List.set_cons_zero, Nat.reduceAdd, List.cons_append, List.nil_append]
theorem hd_sum (p : Pk) : fo (tot (hd p (chk p))) = 65535 := by
  have h := stand_words (hd p 0) (hd p 0) 5 (by rw [hd_length]; omega) (by
    unfold hd hd20
    simp only [List.set_cons_succ, List.set_cons_zero, List.cons_append, List.nil_append]
    rfl)
  have e : (2 * 5 : Nat) = 10 := rfl
  rw [e] at h
  have h2 : 65535 - fo (tot (hd p 0)) = chk p := rfl
  rw [h2, hd_set] at h
  exact h

theorem flg_parts (p : Pk) (h : May p) : decide (flg p / 16384 % 2 = 1) = p.df ∧ decide (flg p / 8192 % 2 = 1) = p.mf ∧ flg p % 8192 * 8 = p.off ∧ flg p < 32768 ∧ 0 ≤ flg p := by
  have h0 := h.o0
  have h1 := h.o1
  have h8 := h.o8
  unfold flg
  cases p.df <;> cases p.mf <;> simp <;> omega

theorem put_bytes (p : Pk) (c : Int) (R : List UInt8) (h : May p) (hr : Rng p) (c0 : 0 ≤ c) (c1 : c ≤ 65535) :
    g8 (hd p c ++ R) 0 = 64 + hln p / 4 ∧ g8 (hd p c ++ R) 1 = p.tos ∧ wd (hd p c ++ R) 2 = whl p ∧ wd (hd p c ++ R) 4 = p.id ∧ wd (hd p c ++ R) 6 = flg p ∧ g8 (hd p c ++ R) 8 = p.ttl ∧ g8 (hd p c ++ R) 9 = p.proto ∧ ad4 (hd p c ++ R) 12 = p.src ∧ ad4 (hd p c ++ R) 16 = p.dst := by
  obtain ⟨t0, t1, l0, l1, r0, r1, d0, d1, f0, f1, f8, p40, p4, fit, mf⟩ := h
  obtain ⟨s0, s1, e0, e1⟩ := hr
  have w0 : 0 ≤ whl p := by unfold whl hln; omega
  have w1 : whl p ≤ 65535 := by unfold whl hln; omega
  have q0 := (by unfold flg; split <;> split <;> omega : 0 ≤ flg p)
  have q1 := (by unfold flg; split <;> split <;> omega : flg p ≤ 65535)
  have n0 : 0 ≤ 64 + hln p / 4 := by unfold hln; omega
  have n1 : 64 + hln p / 4 ≤ 255 := by unfold hln; omega
  have e : hd p c ++ R = b8 (64 + hln p / 4) :: b8 p.tos :: b8 (whl p / 256) :: b8 (whl p % 256) :: b8 (p.id / 256) :: b8 (p.id % 256) :: b8 (flg p / 256) :: b8 (flg p % 256) :: b8 p.ttl :: b8 p.proto :: b8 (c / 256) :: b8 (c % 256) ::
    b8 (p.src / 16777216) :: b8 (p.src / 65536 % 256) :: b8 (p.src / 256 % 256) :: b8 (p.src % 256) :: b8 (p.dst / 16777216) :: b8 (p.dst / 65536 % 256) :: b8 (p.dst / 256 % 256) :: b8 (p.dst % 256) :: (p.opts ++ R) := by
    unfold hd hd20; simp
  rw [e]
  unfold ad4 wd
  simp only [Nat.reduceAdd]
  refine ⟨?_, ?_, ?_, ?_, ?_, ?_, ?_, ?_, ?_⟩ <;> simp only [show ∀ (a : UInt8) (r : List UInt8), g8 (a :: r) 0 = (a.toNat : Int) from fun _ _ => rfl, show ∀ (a : UInt8) (r : List UInt8) (k : Nat), g8 (a :: r) (k + 1) = g8 r k from fun _ _ _ => rfl]
  · exact b8i _ n0 n1
  · exact b8i _ t0 t1
  · rw [b8i _ (by omega) (by omega), b8i _ (by omega) (by omega)]; omega
  · rw [b8i _ (by omega) (by omega), b8i _ (by omega) (by omega)]; omega
  · rw [b8i _ (by omega) (by omega), b8i _ (by omega) (by omega)]; omega
  · exact b8i _ l0 l1
  · exact b8i _ r0 r1
  · rw [b8i _ (by omega) (by omega), b8i _ (by omega) (by omega), b8i _ (by omega) (by omega), b8i _ (by omega) (by omega)]; omega
  · rw [b8i _ (by omega) (by omega), b8i _ (by omega) (by omega), b8i _ (by omega) (by omega), b8i _ (by omega) (by omega)]; omega

theorem hd_take (p : Pk) (c : Int) (R : List UInt8) : (hd p c ++ R).take (hln p).toNat = hd p c := by
  have e : (hln p).toNat = (hd p c).length := by rw [hd_length]; unfold hln; omega
  rw [e, List.take_left]
/-- what is put is read as it was, whatever stands behind it. -/
theorem prs_put (p : Pk) (R : List UInt8) (h : May p) (hr : Rng p) : prs (putB p ++ R) = (0, p) := by
  obtain ⟨g0, g1, g2, g4, g6, g8', g9, g12, g16⟩ := put_bytes p (chk p) (p.body ++ R) h hr (chk_lo p) (chk_hi p)
  have el : putB p ++ R = hd p (chk p) ++ (p.body ++ R) := by unfold putB; rw [List.append_assoc]
  rw [el]
  have hl : ((hd p (chk p) ++ (p.body ++ R)).length : Int) = whl p + R.length := by rw [List.length_append, List.length_append, hd_length]; unfold whl hln; omega
  have hh : hln p = 20 + (p.opts.length : Int) := rfl
  have hw : whl p = hln p + (p.body.length : Int) := rfl
  have p4 := h.p4
  have p40 := h.p40
  obtain ⟨d1, d2, d3, d4, d5⟩ := flg_parts p h
  have hn : headN (hd p (chk p) ++ (p.body ++ R)) = hln p := by unfold headN; rw [g0]; omega
  have hfit : fitsB p = true := by rw [fitsB_iff]; exact ⟨h.fit, h.mf⟩
  have e1 : ((hd p (chk p)).drop 20) = p.opts := by
    unfold hd
    rw [List.drop_append_of_le_length (by simp [hd20])]
    simp [hd20]
  have e2 : ((hd p (chk p) ++ (p.body ++ R)).take (whl p).toNat).drop (hln p).toNat = p.body := by
    have a : (hln p).toNat = (hd p (chk p)).length := by rw [hd_length]; omega
    have b : (whl p).toNat = (hd p (chk p)).length + p.body.length := by rw [hd_length]; omega
    rw [b, List.take_length_add_append, a, List.drop_left]
    simp
  unfold prs
  rw [if_neg (by omega), if_neg (by rw [g0, hn]; omega), if_neg (by rw [g2, hn]; omega), if_neg (by rw [hn, hd_take, hd_sum]; simp)]
  dsimp only
  rw [g1, g2, g4, g6, g8', g9, g12, g16, hn, hd_take, d1, d2, d3, e1, e2]
  rw [if_neg]
  intro hc
  rcases hc with hc | hc
  · omega
  · have : fitsB ⟨p.tos, p.id, p.df, p.mf, p.off, p.ttl, p.proto, p.src, p.dst, p.opts, p.body⟩ = fitsB p := rfl
    rw [this, hfit] at hc
    cases hc

theorem prs_code (l : List UInt8) (h : (prs l).1 = 0) : measE l = 0 ∧ fo (tot (l.take (headN l).toNat)) = 65535 ∧ wd l 6 < 32768 ∧ (prs l).2 = rdP (l.take (headN l).toNat) ((l.take (wd l 2).toNat).drop (headN l).toNat) := by
  by_cases hM : measE l = 0
  · rw [prs_ok l hM] at h ⊢
    by_cases hS : fo (tot (l.take (headN l).toNat)) = 65535
    · rw [if_neg (by simpa using hS)] at h ⊢
      by_cases hf : 32768 ≤ wd l 6 ∨ fitsB (rdP (l.take (headN l).toNat) ((l.take (wd l 2).toNat).drop (headN l).toNat)) = false
      · rw [if_pos hf] at h; cases h
      · rw [if_neg hf]
        exact ⟨hM, hS, by omega, rfl⟩
    · rw [if_pos hS] at h; cases h
  · rw [prs_meas l hM] at h; exact absurd h hM
theorem prs_empty (l : List UInt8) (h : (prs l).1 ≠ 0) : (prs l).2 = Pk.empty := by
  by_cases hM : measE l = 0
  · rw [prs_ok l hM] at h ⊢
    split
    · rfl
    · rename_i h1
      rw [if_neg h1] at h
      split
      · rfl
      · rename_i h2
        rw [if_neg h2] at h
        exact absurd rfl h
  · rw [prs_meas l hM]
/-- one byte of a head that is another is seen. -/
theorem spoilt (p : Pk) (h : May p) (hr : Rng p) (i : Nat) (b : UInt8) (hi : i < 20 + p.opts.length) (hb : b ≠ (putB p)[i]'(by rw [putB_length]; omega)) :
    ((prs ((putB p).set i b)).1 ≠ 0 ∨ (i = 0 ∧ (prs ((putB p).set i b)).2.opts.length ≠ p.opts.length)) := by
  by_cases hc : (prs ((putB p).set i b)).1 = 0
  · right
    obtain ⟨hM, hS, _, hP⟩ := prs_code _ hc
    have hlen : ((putB p).set i b).length = 20 + p.opts.length + p.body.length := by rw [List.length_set, putB_length]
    have hk : headN ((putB p).set i b) ≠ hln p := by
      intro hk
      rw [hk] at hS
      have e : ((putB p).set i b).take (hln p).toNat = (hd p (chk p)).set i b := by
        have a : (hln p).toNat = (hd p (chk p)).length := by rw [hd_length]; unfold hln; omega
        unfold putB
        rw [List.set_append_left _ _ (by rw [hd_length]; omega), a]
        have : (hd p (chk p)).length = ((hd p (chk p)).set i b).length := by simp
        rw [this, List.take_left]
      rw [e] at hS
      have hx : (putB p)[i]'(by rw [putB_length]; omega) = (hd p (chk p))[i]'(by rw [hd_length]; omega) := by
        simp only [putB]
        rw [List.getElem_append_left]
      rw [hx] at hb
      exact seen (hd p (chk p)) i b (by rw [hd_length]; omega) hb (hd_sum p) hS
    obtain ⟨m1, m2, m3, m4, m5⟩ := meas_ok _ hM
    have h0 : i = 0 := by
      by_cases h0 : i = 0
      · exact h0
      · exfalso
        apply hk
        have g : g8 ((putB p).set i b) 0 = g8 (putB p) 0 := by
          rw [g8_at _ 0 (by omega), g8_at _ 0 (by rw [putB_length]; omega), List.getElem_set_ne h0]
        unfold headN
        rw [g]
        have := (put_bytes p (chk p) p.body h hr (chk_lo p) (chk_hi p)).1
        have e : putB p = hd p (chk p) ++ p.body := rfl
        rw [e, this]
        have := h.p4
        have := h.p40
        unfold hln; omega
    refine ⟨h0, ?_⟩
    rw [hP]
    show ((((putB p).set i b).take (headN ((putB p).set i b)).toNat).drop 20).length ≠ _
    rw [List.length_drop, List.length_take]
    unfold hln at hk
    omega
  · exact .inl hc

theorem b8_g8 (l : List UInt8) (k : Nat) (h : k < l.length) : b8 (g8 l k) = l[k] := by
  rw [g8_at l k h]
  apply UInt8.toNat_inj.1
  have := b8_is (l[k].toNat : Int) (by omega) (by have := l[k].toNat_lt; omega)
  omega
theorem wd_hi8 (l : List UInt8) (k : Nat) : wd l k / 256 = g8 l k := by have := g8_lo l (k + 1); have := g8_hi l (k + 1); unfold wd; omega
theorem wd_lo8 (l : List UInt8) (k : Nat) : wd l k % 256 = g8 l (k + 1) := by have := g8_lo l (k + 1); have := g8_hi l (k + 1); unfold wd; omega
theorem flg_rd (l b : List UInt8) (h0 : 0 ≤ wd l 6) (h : wd l 6 < 32768) : flg (rdP l b) = wd l 6 := by
  unfold flg
  rw [show (rdP l b).off = wd l 6 % 8192 * 8 from rfl, show (rdP l b).mf = decide (wd l 6 / 8192 % 2 = 1) from rfl, show (rdP l b).df = decide (wd l 6 / 16384 % 2 = 1) from rfl]
  by_cases h1 : wd l 6 / 8192 % 2 = 1 <;> by_cases h2 : wd l 6 / 16384 % 2 = 1 <;> simp [h1, h2] <;> omega
/-- what is read is put as it was, but for the check sum. -/
theorem put_prs (l : List UInt8) (h : (prs l).1 = 0) : (putB (prs l).2).length ≤ l.length ∧ (putB (prs l).2).take 10 = l.take 10 ∧ (putB (prs l).2).drop 12 = (l.take (putB (prs l).2).length).drop 12 ∧ 20 ≤ (putB (prs l).2).length := by
  obtain ⟨hM, hS, h6, hP⟩ := prs_code l h
  obtain ⟨m1, m2, m3, m4, m5⟩ := meas_ok l hM
  obtain ⟨k, hk⟩ : ∃ k : Nat, (k : Int) = headN l := ⟨(headN l).toNat, by omega⟩
  obtain ⟨q, hq⟩ : ∃ q : Nat, (q : Int) = wd l 2 := ⟨(wd l 2).toNat, by omega⟩
  have ek : (headN l).toNat = k := by omega
  have eq : (wd l 2).toNat = q := by omega
  rw [ek, eq] at hP
  have h16 : g8 l 0 / 16 = 4 := by
    unfold measE at hM
    rw [if_neg (by omega)] at hM
    by_cases h : g8 l 0 / 16 ≠ 4 ∨ headN l < 20 ∨ (l.length : Int) < headN l
    · rw [if_pos h] at hM; cases hM
    · omega
  have t : ∀ i, i < 20 → g8 (l.take k) i = g8 l i := by
    intro i hi
    rw [g8_at _ i (by rw [List.length_take]; omega), g8_at l i (by omega), List.getElem_take]
  have tw : ∀ i, i < 19 → wd (l.take k) i = wd l i := by
    intro i hi
    unfold wd; rw [t i (by omega), t (i + 1) (by omega)]
  rw [hP]
  have hf := flg_rd (l.take k) ((l.take q).drop k) (wd_lo _ _) (by rw [tw 6 (by omega)]; exact h6)
  have ho : (rdP (l.take k) ((l.take q).drop k)).opts.length = k - 20 := by show ((l.take k).drop 20).length = _; rw [List.length_drop, List.length_take]; omega
  have hb : (rdP (l.take k) ((l.take q).drop k)).body.length = q - k := by show ((l.take q).drop k).length = _; rw [List.length_drop, List.length_take]; omega
  have hlen : (putB (rdP (l.take k) ((l.take q).drop k))).length = q := by rw [putB_length, ho, hb]; omega
  have h1 : 64 + hln (rdP (l.take k) ((l.take q).drop k)) / 4 = g8 l 0 := by
    have b0 := g8_lo l 0
    have hh : headN l = g8 l 0 % 16 * 4 := rfl
    unfold hln; rw [ho]; omega
  have h2 : whl (rdP (l.take k) ((l.take q).drop k)) = wd l 2 := by unfold whl hln; rw [ho, hb]; omega
  have hE : putB (rdP (l.take k) ((l.take q).drop k)) = [l[0]'(by omega), l[1]'(by omega), l[2]'(by omega), l[3]'(by omega), l[4]'(by omega), l[5]'(by omega), l[6]'(by omega), l[7]'(by omega), l[8]'(by omega), l[9]'(by omega), b8 (chk (rdP (l.take k) ((l.take q).drop k)) / 256), b8 (chk (rdP (l.take k) ((l.take q).drop k)) % 256), l[12]'(by omega), l[13]'(by omega), l[14]'(by omega), l[15]'(by omega), l[16]'(by omega), l[17]'(by omega), l[18]'(by omega), l[19]'(by omega)] ++ (l.take q).drop 20 := by
    have hs : (rdP (l.take k) ((l.take q).drop k)).src = wd l 12 * 65536 + wd l 14 := by show ad4 (l.take k) 12 = _; unfold ad4; rw [tw 12 (by omega), tw (12 + 2) (by omega)]
    have hd_ : (rdP (l.take k) ((l.take q).drop k)).dst = wd l 16 * 65536 + wd l 18 := by show ad4 (l.take k) 16 = _; unfold ad4; rw [tw 16 (by omega), tw (16 + 2) (by omega)]
    have b12 := wd_lo l 12
    have b12' := wd_hi l 12
    have b14 := wd_lo l 14
    have b14' := wd_hi l 14
    have b16 := wd_lo l 16
    have b16' := wd_hi l 16
    have b18 := wd_lo l 18
    have b18' := wd_hi l 18
    have tail : (rdP (l.take k) ((l.take q).drop k)).opts ++ (rdP (l.take k) ((l.take q).drop k)).body = (l.take q).drop 20 := by
      show (l.take k).drop 20 ++ (l.take q).drop k = _
      have e : l.take k = (l.take q).take k := by rw [List.take_take, Nat.min_eq_left (by omega)]
      have e2 : (l.take q).drop k = ((l.take q).drop 20).drop (k - 20) := by rw [List.drop_drop]; congr 1; omega
      rw [e, List.drop_take, e2, List.take_append_drop]
    unfold putB hd
    rw [List.append_assoc, tail]
    congr 1
    unfold hd20
    rw [h1, h2, hf, tw 6 (by omega), hs, hd_, wd_hi8, wd_lo8, wd_hi8, wd_lo8, b8_g8 l 0 (by omega), b8_g8 l 2 (by omega), b8_g8 l (2 + 1) (by omega), b8_g8 l 6 (by omega), b8_g8 l (6 + 1) (by omega)]
    rw [show (rdP (l.take k) ((l.take q).drop k)).tos = g8 (l.take k) 1 from rfl, show (rdP (l.take k) ((l.take q).drop k)).id = wd (l.take k) 4 from rfl, show (rdP (l.take k) ((l.take q).drop k)).ttl = g8 (l.take k) 8 from rfl, show (rdP (l.take k) ((l.take q).drop k)).proto = g8 (l.take k) 9 from rfl]
    rw [t 1 (by omega), tw 4 (by omega), t 8 (by omega), t 9 (by omega), wd_hi8, wd_lo8, b8_g8 l 1 (by omega), b8_g8 l 4 (by omega), b8_g8 l (4 + 1) (by omega), b8_g8 l 8 (by omega), b8_g8 l 9 (by omega)]
    rw [show (wd l 12 * 65536 + wd l 14) / 16777216 = wd l 12 / 256 from by omega, show (wd l 12 * 65536 + wd l 14) / 65536 % 256 = wd l 12 % 256 from by omega, show (wd l 12 * 65536 + wd l 14) / 256 % 256 = wd l 14 / 256 from by omega, show (wd l 12 * 65536 + wd l 14) % 256 = wd l 14 % 256 from by omega]
    rw [show (wd l 16 * 65536 + wd l 18) / 16777216 = wd l 16 / 256 from by omega, show (wd l 16 * 65536 + wd l 18) / 65536 % 256 = wd l 16 % 256 from by omega, show (wd l 16 * 65536 + wd l 18) / 256 % 256 = wd l 18 / 256 from by omega, show (wd l 16 * 65536 + wd l 18) % 256 = wd l 18 % 256 from by omega]
    rw [wd_hi8, wd_lo8, wd_hi8, wd_lo8, wd_hi8, wd_lo8, wd_hi8, wd_lo8, b8_g8 l 12 (by omega), b8_g8 l (12 + 1) (by omega), b8_g8 l 14 (by omega), b8_g8 l (14 + 1) (by omega), b8_g8 l 16 (by omega), b8_g8 l (16 + 1) (by omega), b8_g8 l 18 (by omega), b8_g8 l (18 + 1) (by omega)]
  have hL : l.take q = [l[0]'(by omega), l[1]'(by omega), l[2]'(by omega), l[3]'(by omega), l[4]'(by omega), l[5]'(by omega), l[6]'(by omega), l[7]'(by omega), l[8]'(by omega), l[9]'(by omega), l[10]'(by omega), l[11]'(by omega), l[12]'(by omega), l[13]'(by omega), l[14]'(by omega), l[15]'(by omega), l[16]'(by omega), l[17]'(by omega), l[18]'(by omega), l[19]'(by omega)] ++ (l.take q).drop 20 := by
    have e := (List.take_append_drop 20 (l.take q)).symm
    rw [List.take_take, Nat.min_eq_left (by omega)] at e
    rw [e]
    congr 1
    · apply List.ext_getElem
      · simp; omega
      · intro i h1 h2
        rw [List.getElem_take]
        have hi : i < 20 := by simpa using h2
        match i, hi with
        | 0, _ => rfl
        | 1, _ => rfl
        | 2, _ => rfl
        | 3, _ => rfl
        | 4, _ => rfl
        | 5, _ => rfl
        | 6, _ => rfl
        | 7, _ => rfl
        | 8, _ => rfl
        | 9, _ => rfl
        | 10, _ => rfl
        | 11, _ => rfl
        | 12, _ => rfl
        | 13, _ => rfl
        | 14, _ => rfl
        | 15, _ => rfl
        | 16, _ => rfl
        | 17, _ => rfl
        | 18, _ => rfl
        | 19, _ => rfl
        | n + 20, h => exact absurd h (by omega)
    · rw [← e]
  refine ⟨by rw [hlen]; omega, ?_, ?_, by rw [hlen]; omega⟩
  · have e : l.take 10 = (l.take q).take 10 := by rw [List.take_take, Nat.min_eq_left (by omega)]
    rw [e, hE, hL]
    rfl
  · rw [hlen, hE, hL]
    rfl
end Go.Proofs.Ytmgkkgpdnopeaaa

/- Segments and their bytes: plain mathematics. No condition beyond bounds. -/
namespace Go.Proofs.Ytmgkkgpdnopeaaa
open Go.RowKit
set_option linter.unusedVariables false

structure Op where
  kind : Int
  data : List UInt8
structure Tc where
  sport : Int
  dport : Int
  seq : Int
  ack : Int
  flags : Int
  win : Int
  urg : Int
  opts : List Op
  body : List UInt8
def Tc.empty : Tc := ⟨0, 0, 0, 0, 0, 0, 0, [], []⟩
def sameO (a b : Op) : Bool := a.kind == b.kind && a.data == b.data
theorem sameO_iff (a b : Op) : sameO a b = true ↔ a = b := by cases a; cases b; simp [sameO]

/-- one of the five kinds of which there is at most one each. -/
def five (k : Int) : Bool := (decide (2 ≤ k) && decide (k ≤ 5)) || k == 8
/-- has an option of this kind so much data? -/
def okLen (k : Int) (d : Nat) : Bool :=
  if k = 2 then d == 2 else if k = 3 then d == 1 else if k = 4 then d == 0 else if k = 5 then (d != 0 && decide (d ≤ 32)) && d % 8 == 0 else if k = 8 then d == 8 else true
/-- how many bytes options have. -/
def olen : List Op → Nat
  | [] => 0
  | o :: r => 2 + o.data.length + olen r
theorem olen_append : ∀ (a b : List Op), olen (a ++ b) = olen a + olen b
  | [], b => by simp [olen]
  | o :: r, b => by have := olen_append r b; simp only [List.cons_append, olen, this]; omega
theorem olen_take_succ (os : List Op) (i : Nat) (h : i < os.length) : olen (os.take (i + 1)) = olen (os.take i) + (2 + os[i].data.length) := by
  rw [List.take_succ_eq_append_getElem h, olen_append]
  simp [olen]
theorem olen_take_le (os : List Op) (i : Nat) : olen (os.take i) ≤ olen os := by
  have := olen_append (os.take i) (os.drop i)
  rw [List.take_append_drop] at this
  omega
/-- is there one of the same kind, of the five, ahead of place i? -/
def twin (os : List Op) (i : Nat) (k : Int) : Bool := (os.take i).any fun o => o.kind == k && five k
/-- is the option at place i right, behind those ahead of it? -/
def goodAt (os : List Op) (i : Nat) : Bool :=
  match os[i]? with
  | none => false
  | some o => decide (2 ≤ o.kind) && (decide (o.kind ≤ 255) && (okLen o.kind o.data.length && (!twin os i o.kind && decide (olen (os.take (i + 1)) ≤ 40))))
def rightB (os : List Op) : Bool := (List.range os.length).all (goodAt os)
theorem rightB_iff (os : List Op) : rightB os = true ↔ ∀ i, i < os.length → goodAt os i = true := by simp [rightB]
structure Good (os : List Op) (i : Nat) (h : i < os.length) : Prop where
  k0 : 2 ≤ os[i].kind
  k1 : os[i].kind ≤ 255
  len : okLen os[i].kind os[i].data.length = true
  tw : twin os i os[i].kind = false
  n40 : olen (os.take (i + 1)) ≤ 40
theorem goodAt_iff (os : List Op) (i : Nat) (h : i < os.length) : goodAt os i = true ↔ Good os i h := by
  unfold goodAt
  rw [List.getElem?_eq_getElem h]
  simp only [Bool.and_eq_true, decide_eq_true_eq, Bool.not_eq_true']
  exact ⟨fun ⟨a, b, c, d, e⟩ => ⟨a, b, c, d, e⟩, fun h => ⟨h.k0, h.k1, h.len, h.tw, h.n40⟩⟩
theorem right_olen (os : List Op) (h : rightB os = true) : olen os ≤ 40 := by
  rw [rightB_iff] at h
  by_cases h0 : os.length = 0
  · rw [List.length_eq_zero_iff.1 h0]; simp [olen]
  · have := ((goodAt_iff os (os.length - 1) (by omega)).1 (h _ (by omega))).n40
    rw [show os.length - 1 + 1 = os.length by omega, List.take_length] at this
    exact this
theorem goodAt_append (a b : List Op) (i : Nat) (h : i < a.length) : goodAt (a ++ b) i = goodAt a i := by
  unfold goodAt twin
  rw [List.getElem?_append_left h, List.take_append_of_le_length (by omega), List.take_append_of_le_length (by omega)]
theorem right_prefix (a b : List Op) (h : rightB (a ++ b) = true) : rightB a = true := by
  rw [rightB_iff] at h ⊢
  intro i hi
  have := h i (by rw [List.length_append]; omega)
  rwa [goodAt_append a b i hi] at this
theorem right_nil : rightB [] = true := rfl
/-- one option more. -/
theorem right_snoc (a : List Op) (o : Op) (h : rightB a = true) : rightB (a ++ [o]) = goodAt (a ++ [o]) a.length := by
  rw [Bool.eq_iff_iff, rightB_iff]
  constructor
  · intro h2; exact h2 _ (by simp)
  · intro h2 i hi
    by_cases e : i = a.length
    · subst e; exact h2
    · have hl : i < a.length := by simp at hi; omega
      rw [goodAt_append a [o] i hl]
      exact (rightB_iff a).1 h i hl
theorem right_first (o : Op) : True := trivial

/-- the bytes of options. -/
def opB (o : Op) : List UInt8 := b8 o.kind :: b8 (2 + o.data.length) :: o.data
def opsB : List Op → List UInt8
  | [] => []
  | o :: r => opB o ++ opsB r
theorem opsB_append : ∀ (a b : List Op), opsB (a ++ b) = opsB a ++ opsB b
  | [], b => rfl
  | o :: r, b => by have := opsB_append r b; simp only [List.cons_append, opsB, this, List.append_assoc]
theorem opsB_length : ∀ (os : List Op), (opsB os).length = olen os
  | [] => rfl
  | o :: r => by have := opsB_length r; simp only [opsB, olen, opB, List.length_append, List.length_cons, this]; omega
theorem opsB_take_succ (os : List Op) (i : Nat) (h : i < os.length) : opsB (os.take (i + 1)) = opsB (os.take i) ++ opB os[i] := by
  rw [List.take_succ_eq_append_getElem h, opsB_append]
  simp [opsB]
/-- how many bytes 0 stand behind so many bytes of options. -/
def padN (n : Nat) : Nat := (4 - n % 4) % 4
theorem padN_spec (n : Nat) : (n + padN n) % 4 = 0 ∧ padN n < 4 := by unfold padN; omega
def padB (os : List Op) : List UInt8 := opsB os ++ List.replicate (padN (olen os)) 0
theorem padB_length (os : List Op) : (padB os).length = olen os + padN (olen os) := by simp [padB, opsB_length]

def two (n : Int) : List UInt8 := [b8 (n / 256), b8 (n % 256)]
def four (n : Int) : List UInt8 := [b8 (n / 16777216), b8 (n / 65536 % 256), b8 (n / 256 % 256), b8 (n % 256)]
/-- how long the head is. -/
def thl (os : List Op) : Nat := 20 + (olen os + padN (olen os))
theorem thl_four (os : List Op) : thl os % 4 = 0 := by unfold thl; have := padN_spec (olen os); omega
/-- a segment's bytes, with a check sum. -/
def seg20 (t : Tc) (check : Int) : List UInt8 :=
  [b8 (t.sport / 256), b8 (t.sport % 256), b8 (t.dport / 256), b8 (t.dport % 256), b8 (t.seq / 16777216), b8 (t.seq / 65536 % 256), b8 (t.seq / 256 % 256), b8 (t.seq % 256), b8 (t.ack / 16777216), b8 (t.ack / 65536 % 256), b8 (t.ack / 256 % 256), b8 (t.ack % 256),
    b8 ((thl t.opts : Int) / 4 * 16), b8 t.flags, b8 (t.win / 256), b8 (t.win % 256), b8 (check / 256), b8 (check % 256), b8 (t.urg / 256), b8 (t.urg % 256)]
def segB (t : Tc) (check : Int) : List UInt8 := seg20 t check ++ (padB t.opts ++ t.body)
theorem segB_length (t : Tc) (c : Int) : (segB t c).length = thl t.opts + t.body.length := by simp [segB, seg20, padB_length, thl]; omega
/-- the sum with the pseudo head. -/
def sumT (proto : Int) (src dst : Int) (l : List UInt8) : Int := fo (pseudo src dst proto (l.length : Int) + fo (tot l))
theorem sumT_lo (p src dst : Int) (l : List UInt8) : 0 ≤ sumT p src dst l := fo_lo _
theorem sumT_hi (p src dst : Int) (l : List UInt8) : sumT p src dst l ≤ 65535 := fo_hi _
def chkT (src dst : Int) (t : Tc) : Int := 65535 - sumT 6 src dst (segB t 0)
theorem chkT_lo (src dst : Int) (t : Tc) : 0 ≤ chkT src dst t := by have := sumT_hi 6 src dst (segB t 0); unfold chkT; omega
theorem chkT_hi (src dst : Int) (t : Tc) : chkT src dst t ≤ 65535 := by have := sumT_lo 6 src dst (segB t 0); unfold chkT; omega
def putT (src dst : Int) (t : Tc) : List UInt8 := segB t (chkT src dst t)
theorem putT_length (src dst : Int) (t : Tc) : (putT src dst t).length = thl t.opts + t.body.length := segB_length _ _

structure MayT (t : Tc) : Prop where
  s0 : 0 ≤ t.sport
  s1 : t.sport ≤ 65535
  d0 : 0 ≤ t.dport
  d1 : t.dport ≤ 65535
  w0 : 0 ≤ t.win
  w1 : t.win ≤ 65535
  u0 : 0 ≤ t.urg
  u1 : t.urg ≤ 65535
  f0 : 0 ≤ t.flags
  f1 : t.flags ≤ 255
  opts : rightB t.opts = true
  fit : thl t.opts + t.body.length ≤ 65535
def inB (n m : Int) : Bool := decide (0 ≤ n) && decide (n ≤ m)
def mayT (t : Tc) : Bool := inB t.sport 65535 && (inB t.dport 65535 && (inB t.win 65535 && (inB t.urg 65535 && (inB t.flags 255 && (rightB t.opts && decide (thl t.opts + t.body.length ≤ 65535))))))
theorem mayT_iff (t : Tc) : mayT t = true ↔ MayT t := by
  unfold mayT inB
  simp only [Bool.and_eq_true, decide_eq_true_eq]
  constructor
  · rintro ⟨⟨a, b⟩, ⟨c, d⟩, ⟨e, f⟩, ⟨g, i⟩, ⟨j, k⟩, l, m⟩
    exact ⟨a, b, c, d, e, f, g, i, j, k, l, m⟩
  · intro h
    exact ⟨⟨h.s0, h.s1⟩, ⟨h.d0, h.d1⟩, ⟨h.w0, h.w1⟩, ⟨h.u0, h.u1⟩, ⟨h.f0, h.f1⟩, h.opts, h.fit⟩

/-- the options of these bytes, behind those that came; none: there is one that is none. -/
def pOpts : Nat → List UInt8 → List Op → Option (List Op)
  | 0, _, acc => some acc
  | _ + 1, [], acc => some acc
  | f + 1, k :: r, acc =>
    if k = 0 then some acc
    else if k = 1 then pOpts f r acc
    else
      match r with
      | [] => none
      | n :: r =>
        if n.toNat < 2 ∨ r.length < n.toNat - 2 then none
        else if rightB (acc ++ [⟨(k.toNat : Int), r.take (n.toNat - 2)⟩]) then pOpts f (r.drop (n.toNat - 2)) (acc ++ [⟨(k.toNat : Int), r.take (n.toNat - 2)⟩]) else none

/-- how long the head says that it is. -/
def tsz (l : List UInt8) : Int := g8 l 12 / 16 * 4
def prsT (src dst : Int) (l : List UInt8) : Int × Tc :=
  if 65535 < l.length then (4, Tc.empty)
  else if l.length < 20 then (2, Tc.empty)
  else if tsz l < 20 ∨ (l.length : Int) < tsz l then (3, Tc.empty)
  else if sumT 6 src dst l ≠ 65535 then (5, Tc.empty)
  else
    match pOpts 60 ((l.take (tsz l).toNat).drop 20) [] with
    | none => (6, Tc.empty)
    | some os => (0, ⟨wd l 0, wd l 2, ad4 l 4, ad4 l 8, g8 l 13, wd l 14, wd l 18, os, l.drop (tsz l).toNat⟩)

/-- what is put is read as it was. -/
theorem pOpts_put : ∀ (os : List Op) (f m : Nat) (acc : List Op), (opsB os).length + m ≤ f → rightB (acc ++ os) = true → pOpts f (opsB os ++ List.replicate m 0) acc = some (acc ++ os)
  | [], f, m, acc, _, h => by
    simp only [opsB, List.nil_append, List.append_nil]
    cases f with
    | zero => rfl
    | succ f =>
      cases m with
      | zero => rfl
      | succ m => simp [List.replicate_succ, pOpts]
  | o :: r, f, m, acc, hf, h => by
    have hg := (goodAt_iff (acc ++ o :: r) acc.length (by simp)).1 ((rightB_iff _).1 h _ (by simp))
    have e0 : (acc ++ o :: r)[acc.length]'(by simp) = o := by simp
    have k0 := hg.k0
    have k1 := hg.k1
    rw [e0] at k0 k1
    have n40 := right_olen _ h
    rw [olen_append] at n40
    simp only [olen] at n40
    simp only [opsB, opB, List.length_append, List.length_cons] at hf
    cases f with
    | zero => omega
    | succ f =>
      have b1 := b8_is o.kind (by omega) k1
      have b2 := b8_is (2 + o.data.length) (by omega) (by omega)
      have hk : ¬ b8 o.kind = 0 := fun e => by rw [e] at b1; simp at b1; omega
      have hk1 : ¬ b8 o.kind = 1 := fun e => by rw [e] at b1; simp at b1; omega
      have e2 : (b8 (2 + (o.data.length : Int))).toNat = 2 + o.data.length := by omega
      simp only [opsB, opB, List.cons_append, List.append_assoc]
      rw [pOpts, if_neg hk, if_neg hk1, e2, if_neg (by simp), show 2 + o.data.length - 2 = o.data.length by omega, List.take_left, List.drop_left, b1]
      have h' : rightB (acc ++ [o] ++ r) = true := by simpa using h
      have hs := right_prefix _ _ h'
      rw [if_pos hs, pOpts_put r f m (acc ++ [o]) (by omega) h']
      simp

/-- what is read of them is right, and no longer than they. -/
theorem pOpts_right : ∀ (f : Nat) (l : List UInt8) (acc os : List Op), rightB acc = true → pOpts f l acc = some os → rightB os = true ∧ olen os ≤ olen acc + l.length
  | 0, l, acc, os, h, e => by simp only [pOpts, Option.some.injEq] at e; subst e; exact ⟨h, by omega⟩
  | f + 1, [], acc, os, h, e => by simp only [pOpts, Option.some.injEq] at e; subst e; exact ⟨h, by omega⟩
  | f + 1, [k], acc, os, h, e => by
    rw [pOpts] at e
    split at e
    · simp only [Option.some.injEq] at e; subst e; exact ⟨h, by omega⟩
    · split at e
      · have := pOpts_right f [] acc os h e
        exact ⟨this.1, by have := this.2; simp at this ⊢; omega⟩
      · simp at e
  | f + 1, k :: n :: r, acc, os, h, e => by
    rw [pOpts] at e
    split at e
    · simp only [Option.some.injEq] at e; subst e; exact ⟨h, by omega⟩
    · split at e
      · have := pOpts_right f (n :: r) acc os h e
        exact ⟨this.1, by have := this.2; simp at this ⊢; omega⟩
      · split at e
        · simp at e
        · rename_i hn
          split at e
          · rename_i hr
            have := pOpts_right f _ _ os hr e
            refine ⟨this.1, ?_⟩
            have h2 := this.2
            rw [olen_append] at h2
            simp only [olen, List.length_take, List.length_drop, List.length_cons] at h2 ⊢
            omega
          · simp at e

theorem g8_list (l : List UInt8) (k : Nat) : True := trivial
theorem seg_bytes (t : Tc) (c : Int) (h : MayT t) (hq : 0 ≤ t.seq ∧ t.seq ≤ 4294967295) (ha : 0 ≤ t.ack ∧ t.ack ≤ 4294967295) :
    wd (segB t c) 0 = t.sport ∧ wd (segB t c) 2 = t.dport ∧ ad4 (segB t c) 4 = t.seq ∧ ad4 (segB t c) 8 = t.ack ∧ tsz (segB t c) = (thl t.opts : Int) ∧ g8 (segB t c) 13 = t.flags ∧ wd (segB t c) 14 = t.win ∧ wd (segB t c) 18 = t.urg := by
  obtain ⟨s0, s1, d0, d1, w0, w1, u0, u1, f0, f1, ho, fit⟩ := h
  have h40 := right_olen _ ho
  have h4 := thl_four t.opts
  have hp := padN_spec (olen t.opts)
  have h60 : thl t.opts ≤ 60 := by unfold thl; omega
  have h20 : 20 ≤ thl t.opts := by unfold thl; omega
  unfold segB seg20 tsz ad4 wd
  simp only [List.cons_append, List.nil_append, Nat.reduceAdd]
  refine ⟨?_, ?_, ?_, ?_, ?_, ?_, ?_, ?_⟩ <;> simp only [show ∀ (a : UInt8) (r : List UInt8), g8 (a :: r) 0 = (a.toNat : Int) from fun _ _ => rfl, show ∀ (a : UInt8) (r : List UInt8) (k : Nat), g8 (a :: r) (k + 1) = g8 r k from fun _ _ _ => rfl]
  · rw [b8_is _ (by omega) (by omega), b8_is _ (by omega) (by omega)]; omega
  · rw [b8_is _ (by omega) (by omega), b8_is _ (by omega) (by omega)]; omega
  · rw [b8_is _ (by omega) (by omega), b8_is _ (by omega) (by omega), b8_is _ (by omega) (by omega), b8_is _ (by omega) (by omega)]; omega
  · rw [b8_is _ (by omega) (by omega), b8_is _ (by omega) (by omega), b8_is _ (by omega) (by omega), b8_is _ (by omega) (by omega)]; omega
  · rw [b8_is _ (by omega) (by omega)]; omega
  · rw [b8_is _ (by omega) (by omega)]
  · rw [b8_is _ (by omega) (by omega), b8_is _ (by omega) (by omega)]; omega
  · rw [b8_is _ (by omega) (by omega), b8_is _ (by omega) (by omega)]; omega

/-- the check sum stands at 16. -/
theorem seg_set (t : Tc) (c : Int) : ((segB t 0).set 16 (b8 (c / 256))).set (16 + 1) (b8 (c % 256)) = segB t c := by
  unfold segB seg20
  simp only [List.set_cons_succ, List.set_cons_zero, Nat.reduceAdd, List.cons_append, List.nil_append]
theorem tot_seg (t : Tc) (c : Int) (h0 : 0 ≤ c) (h1 : c ≤ 65535) : tot (segB t c) = tot (segB t 0) + c := by
  rw [← seg_set t c]
  have := tot_set 8 (segB t 0) (b8 (c / 256)) (b8 (c % 256)) (by rw [segB_length]; unfold thl; omega)
  simp only [Nat.reduceMul, Nat.reduceAdd] at this
  simp only [Nat.reduceAdd]
  have z : (segB t 0)[16]'(by rw [segB_length]; unfold thl; omega) = 0 := rfl
  have z1 : (segB t 0)[17]'(by rw [segB_length]; unfold thl; omega) = 0 := rfl
  rw [this, z, z1, b8_is _ (by omega) (by omega), b8_is _ (by omega) (by omega)]
  simp; omega
theorem pseudo_lo (s d p z : Int) : 0 ≤ pseudo s d p z := fo_lo _
/-- the sum of what is put fits. -/
theorem sum_put (src dst : Int) (t : Tc) : sumT 6 src dst (putT src dst t) = 65535 := by
  have c0 := chkT_lo src dst t
  have c1 := chkT_hi src dst t
  have t0 := tot_lo (segB t 0)
  have p0 := pseudo_lo src dst 6 (((segB t 0).length : Nat) : Int)
  have hl : (putT src dst t).length = (segB t 0).length := by rw [putT_length, segB_length]
  unfold sumT
  rw [hl, show tot (putT src dst t) = tot (segB t 0) + chkT src dst t from tot_seg t _ c0 c1, fo_fo' _ _ p0 (by omega)]
  have hc : chkT src dst t = 65535 - fo (pseudo src dst 6 ((segB t 0).length : Int) + tot (segB t 0)) := by
    unfold chkT sumT; rw [fo_fo' _ _ p0 t0]
  rw [hc]
  have := stands (pseudo src dst 6 ((segB t 0).length : Int) + tot (segB t 0)) (by omega)
  rw [← this]
  congr 1
  omega
theorem seg_opts (t : Tc) (c : Int) : ((segB t c).take (thl t.opts)).drop 20 = padB t.opts ∧ (segB t c).drop (thl t.opts) = t.body := by
  have hl : (seg20 t c ++ padB t.opts).length = thl t.opts := by simp [seg20, padB_length, thl]; omega
  have e : segB t c = (seg20 t c ++ padB t.opts) ++ t.body := by unfold segB; rw [List.append_assoc]
  rw [e, ← hl]
  constructor
  · rw [List.take_left, show 20 = (seg20 t c).length from rfl, List.drop_left]
  · rw [List.drop_left]
/-- what is put is parsed as it was. -/
theorem prs_putT (src dst : Int) (t : Tc) (h : MayT t) (hq : 0 ≤ t.seq ∧ t.seq ≤ 4294967295) (ha : 0 ≤ t.ack ∧ t.ack ≤ 4294967295) : prsT src dst (putT src dst t) = (0, t) := by
  obtain ⟨g0, g2, g4, g8', g12, g13, g14, g18⟩ := seg_bytes t (chkT src dst t) h hq ha
  have hl := putT_length src dst t
  have fit := h.fit
  have h20 : 20 ≤ thl t.opts := by unfold thl; omega
  have h40 := right_olen _ h.opts
  have hp := padN_spec (olen t.opts)
  obtain ⟨o1, o2⟩ := seg_opts t (chkT src dst t)
  have hs := sum_put src dst t
  have hx : tsz (putT src dst t) = (thl t.opts : Int) := g12
  have eo : pOpts 60 (padB t.opts) [] = some t.opts := by
    have := pOpts_put t.opts 60 (padN (olen t.opts)) [] (by rw [opsB_length]; omega) (by simpa using h.opts)
    exact this
  unfold prsT
  rw [if_neg (by omega), if_neg (by omega), if_neg (by rw [hx]; omega), if_neg (by rw [hs]; simp), hx]
  have ex : ((thl t.opts : Int)).toNat = thl t.opts := by omega
  rw [ex]
  unfold putT
  rw [o1, eo, g0, g2, g4, g8', g13, g14, g18, o2]

/-- what is read may be put, and is no longer then. -/
theorem prsT_ok (src dst : Int) (l : List UInt8) (h : (prsT src dst l).1 = 0) : MayT (prsT src dst l).2 ∧ (0 ≤ (prsT src dst l).2.seq ∧ (prsT src dst l).2.seq ≤ 4294967295) ∧ (0 ≤ (prsT src dst l).2.ack ∧ (prsT src dst l).2.ack ≤ 4294967295) ∧
    thl (prsT src dst l).2.opts + (prsT src dst l).2.body.length ≤ l.length := by
  unfold prsT at h ⊢
  split at h
  · cases h
  · rename_i h1
    rw [if_neg h1]
    split at h
    · cases h
    · rename_i h2
      rw [if_neg h2]
      split at h
      · cases h
      · rename_i h3
        rw [if_neg h3]
        split at h
        · cases h
        · rename_i h4
          rw [if_neg h4]
          cases hp : pOpts 60 ((l.take (tsz l).toNat).drop 20) [] with
          | none => rw [hp] at h; cases h
          | some os =>
            dsimp only
            obtain ⟨hr, hn⟩ := pOpts_right _ _ _ _ right_nil hp
            simp only [olen, List.length_drop, List.length_take] at hn
            have hz : tsz l % 4 = 0 := by unfold tsz; omega
            have hf : thl os + (l.drop (tsz l).toNat).length ≤ l.length := by
              rw [List.length_drop]
              have := padN_spec (olen os)
              unfold thl
              omega
            refine ⟨⟨wd_lo _ _, wd_hi _ _, wd_lo _ _, wd_hi _ _, wd_lo _ _, wd_hi _ _, wd_lo _ _, wd_hi _ _, g8_lo _ _, g8_hi _ _, hr, by dsimp only; omega⟩, ⟨ad4_lo _ _, ad4_hi _ _⟩, ⟨ad4_lo _ _, ad4_hi _ _⟩, hf⟩
end Go.Proofs.Ytmgkkgpdnopeaaa

/- Segments of which one byte is another, or one of whose addresses is: plain mathematics. -/
namespace Go.Proofs.Ytmgkkgpdnopeaaa
open Go.RowKit
set_option linter.unusedVariables false

theorem sum_one (p src dst : Int) (l : List UInt8) (i : Nat) (b : UInt8) (h : i < l.length) (hb : b ≠ l[i]) (ht : sumT p src dst l = 65535) : sumT p src dst (l.set i b) ≠ 65535 := by
  obtain ⟨m, hm, e⟩ := tot_one l i b h
  have h1 : b.toNat ≠ l[i].toNat := fun e => hb (UInt8.toNat_inj.1 e)
  have h2 := b.toNat_lt
  have h3 := l[i].toNat_lt
  have p0 := pseudo_lo src dst p ((l.length : Nat) : Int)
  have t0 := tot_lo l
  have t1 := tot_lo (l.set i b)
  unfold sumT at ht ⊢
  rw [List.length_set]
  rw [fo_fo' _ _ p0 t0] at ht
  rw [fo_fo' _ _ p0 t1]
  generalize pseudo src dst p ((l.length : Nat) : Int) = P at *
  intro hf
  rw [fo_top] at ht hf
  rw [e] at hf
  rcases hm with rfl | rfl <;> omega
theorem prsT_sum (src dst : Int) (l : List UInt8) (h : sumT 6 src dst l ≠ 65535) : (prsT src dst l).1 ≠ 0 := by
  unfold prsT
  intro hc
  split at hc
  · cases hc
  · split at hc
    · cases hc
    · split at hc
      · cases hc
      · simp at hc
theorem prsT_five (src dst : Int) (l : List UInt8) (h : sumT 6 src dst l ≠ 65535) (h1 : l.length ≤ 65535) (h2 : 20 ≤ l.length) (h3 : 20 ≤ tsz l) (h4 : tsz l ≤ l.length) : (prsT src dst l).1 = 5 := by
  unfold prsT
  rw [if_neg (by omega), if_neg (by omega), if_neg (by omega), if_pos h]
/-- one byte of a segment that is another is seen. -/
theorem spoiltT (src dst : Int) (t : Tc) (i : Nat) (b : UInt8) (hi : i < thl t.opts + t.body.length) (hb : b ≠ (putT src dst t)[i]'(by rw [putT_length]; omega)) : (prsT src dst ((putT src dst t).set i b)).1 ≠ 0 :=
  prsT_sum _ _ _ (sum_one 6 src dst _ i b (by rw [putT_length]; omega) hb (sum_put src dst t))
/-- an address that is another by one byte is seen. -/
theorem spoiltA (src src' dst e : Int) (t : Tc) (hm : MayT t) (hq : 0 ≤ t.seq ∧ t.seq ≤ 4294967295) (ha : 0 ≤ t.ack ∧ t.ack ≤ 4294967295) (hs : 0 ≤ src) (hd : 0 ≤ dst) (hs' : 0 ≤ src') (h1 : src' / 65536 = src / 65536) (h2 : src' % 65536 = src % 65536 + 256 * e) (h3 : e ≠ 0) (h4 : -255 ≤ e) (h5 : e ≤ 255) :
    (prsT src' dst (putT src dst t)).1 = 5 := by
  have hl := putT_length src dst t
  have fit := hm.fit
  have h20 : 20 ≤ thl t.opts := by unfold thl; omega
  have g12 := (seg_bytes t (chkT src dst t) hm hq ha).2.2.2.2.1
  have hx : tsz (putT src dst t) = (thl t.opts : Int) := g12
  refine prsT_five src' dst _ ?_ (by omega) (by omega) (by rw [hx]; omega) (by rw [hx]; omega)
  have ht := sum_put src dst t
  have t0 := tot_lo (putT src dst t)
  have p0 := pseudo_lo src dst 6 (((putT src dst t).length : Nat) : Int)
  have p1 := pseudo_lo src' dst 6 (((putT src dst t).length : Nat) : Int)
  unfold sumT at ht ⊢
  rw [fo_fo' _ _ p0 t0] at ht
  rw [fo_fo' _ _ p1 t0]
  unfold pseudo at ht ⊢
  have z0 : 0 ≤ (((putT src dst t).length : Nat) : Int) % 65536 := by omega
  generalize (((putT src dst t).length : Nat) : Int) % 65536 = z at *
  generalize tot (putT src dst t) = T at *
  rw [fo_fo _ _ (by omega) t0] at ht
  rw [fo_fo _ _ (by omega) t0]
  rw [fo_top] at ht
  intro hf
  rw [fo_top] at hf
  omega
end Go.Proofs.Ytmgkkgpdnopeaaa

/- Datagrams and their bytes: plain mathematics. No condition beyond bounds. -/
namespace Go.Proofs.Ytmgkkgpdnopeaaa
open Go.RowKit
set_option linter.unusedVariables false

structure Ud where
  sport : Int
  dport : Int
  nosum : Bool
  body : List UInt8
def Ud.empty : Ud := ⟨0, 0, false, []⟩
def sameU (a b : Ud) : Bool := a.sport == b.sport && (a.dport == b.dport && (a.nosum == b.nosum && a.body == b.body))
theorem sameU_iff (a b : Ud) : sameU a b = true ↔ a = b := by cases a; cases b; simp [sameU]
/-- a datagram's bytes, with a check sum. -/
def udB (u : Ud) (check : Int) : List UInt8 :=
  [b8 (u.sport / 256), b8 (u.sport % 256), b8 (u.dport / 256), b8 (u.dport % 256), b8 ((8 + (u.body.length : Int)) / 256), b8 ((8 + (u.body.length : Int)) % 256), b8 (check / 256), b8 (check % 256)] ++ u.body
theorem udB_length (u : Ud) (c : Int) : (udB u c).length = 8 + u.body.length := by simp [udB]; omega
/-- its check sum: none is 0, and of a sum that is 0 65535 is told. -/
def chkU0 (src dst : Int) (u : Ud) : Int := 65535 - sumT 17 src dst (udB u 0)
def chkU (src dst : Int) (u : Ud) : Int := if u.nosum then 0 else if chkU0 src dst u = 0 then 65535 else chkU0 src dst u
theorem chkU0_lo (src dst : Int) (u : Ud) : 0 ≤ chkU0 src dst u := by have := sumT_hi 17 src dst (udB u 0); unfold chkU0; omega
theorem chkU0_hi (src dst : Int) (u : Ud) : chkU0 src dst u ≤ 65535 := by have := sumT_lo 17 src dst (udB u 0); unfold chkU0; omega
theorem chkU_lo (src dst : Int) (u : Ud) : 0 ≤ chkU src dst u := by have := chkU0_lo src dst u; unfold chkU; split <;> (try split) <;> omega
theorem chkU_hi (src dst : Int) (u : Ud) : chkU src dst u ≤ 65535 := by have := chkU0_hi src dst u; unfold chkU; split <;> (try split) <;> omega
theorem chkU_zero (src dst : Int) (u : Ud) : chkU src dst u = 0 ↔ u.nosum = true := by
  have := chkU0_lo src dst u
  unfold chkU
  cases u.nosum <;> simp
  split <;> omega
def putU (src dst : Int) (u : Ud) : List UInt8 := udB u (chkU src dst u)
theorem putU_length (src dst : Int) (u : Ud) : (putU src dst u).length = 8 + u.body.length := udB_length _ _
structure MayU (u : Ud) : Prop where
  s0 : 0 ≤ u.sport
  s1 : u.sport ≤ 65535
  d0 : 0 ≤ u.dport
  d1 : u.dport ≤ 65535
  fit : u.body.length ≤ 65527
def mayU (u : Ud) : Bool := inB u.sport 65535 && (inB u.dport 65535 && decide (u.body.length ≤ 65527))
theorem mayU_iff (u : Ud) : mayU u = true ↔ MayU u := by
  unfold mayU inB
  simp only [Bool.and_eq_true, decide_eq_true_eq]
  exact ⟨fun ⟨⟨a, b⟩, ⟨c, d⟩, e⟩ => ⟨a, b, c, d, e⟩, fun h => ⟨⟨h.s0, h.s1⟩, ⟨h.d0, h.d1⟩, h.fit⟩⟩

def prsU (src dst : Int) (l : List UInt8) : Int × Ud :=
  if l.length < 8 then (2, Ud.empty)
  else if wd l 4 < 8 ∨ (l.length : Int) < wd l 4 then (4, Ud.empty)
  else if 0 < wd l 6 ∧ sumT 17 src dst (l.take (wd l 4).toNat) ≠ 65535 then (5, Ud.empty)
  else (0, ⟨wd l 0, wd l 2, wd l 6 == 0, (l.take (wd l 4).toNat).drop 8⟩)

theorem ud_bytes (u : Ud) (c : Int) (R : List UInt8) (h : MayU u) (c0 : 0 ≤ c) (c1 : c ≤ 65535) :
    wd (udB u c ++ R) 0 = u.sport ∧ wd (udB u c ++ R) 2 = u.dport ∧ wd (udB u c ++ R) 4 = 8 + (u.body.length : Int) ∧ wd (udB u c ++ R) 6 = c := by
  obtain ⟨s0, s1, d0, d1, fit⟩ := h
  unfold udB wd
  simp only [List.cons_append, List.nil_append, Nat.reduceAdd]
  refine ⟨?_, ?_, ?_, ?_⟩ <;> simp only [show ∀ (a : UInt8) (r : List UInt8), g8 (a :: r) 0 = (a.toNat : Int) from fun _ _ => rfl, show ∀ (a : UInt8) (r : List UInt8) (k : Nat), g8 (a :: r) (k + 1) = g8 r k from fun _ _ _ => rfl]
  all_goals (rw [b8_is _ (by omega) (by omega), b8_is _ (by omega) (by omega)]; omega)
theorem ud_set (u : Ud) (c : Int) : ((udB u 0).set 6 (b8 (c / 256))).set (6 + 1) (b8 (c % 256)) = udB u c := by
  unfold udB
  simp only [List.set_cons_succ, List.set_cons_zero, Nat.reduceAdd, List.cons_append, List.nil_append]
theorem tot_ud (u : Ud) (c : Int) (h0 : 0 ≤ c) (h1 : c ≤ 65535) : tot (udB u c) = tot (udB u 0) + c := by
  rw [← ud_set u c]
  have := tot_set 3 (udB u 0) (b8 (c / 256)) (b8 (c % 256)) (by rw [udB_length]; omega)
  simp only [Nat.reduceMul, Nat.reduceAdd] at this
  simp only [Nat.reduceAdd]
  have z : (udB u 0)[6]'(by rw [udB_length]; omega) = 0 := rfl
  have z1 : (udB u 0)[7]'(by rw [udB_length]; omega) = 0 := rfl
  rw [this, z, z1, b8_is _ (by omega) (by omega), b8_is _ (by omega) (by omega)]
  simp; omega
/-- the sum of what is put fits. -/
theorem sum_putU (src dst : Int) (u : Ud) (h : u.nosum = false) : sumT 17 src dst (putU src dst u) = 65535 := by
  have c0 := chkU_lo src dst u
  have c1 := chkU_hi src dst u
  have t0 := tot_lo (udB u 0)
  have p0 := pseudo_lo src dst 17 (((udB u 0).length : Nat) : Int)
  have hl : (putU src dst u).length = (udB u 0).length := by rw [putU_length, udB_length]
  unfold sumT
  rw [hl, show tot (putU src dst u) = tot (udB u 0) + chkU src dst u from tot_ud u _ c0 c1, fo_fo' _ _ p0 (by omega)]
  have hc : chkU0 src dst u = 65535 - fo (pseudo src dst 17 ((udB u 0).length : Int) + tot (udB u 0)) := by
    unfold chkU0 sumT; rw [fo_fo' _ _ p0 t0]
  have hs := stands (pseudo src dst 17 ((udB u 0).length : Int) + tot (udB u 0)) (by omega)
  unfold chkU
  rw [if_neg (by rw [h]; simp)]
  generalize pseudo src dst 17 ((udB u 0).length : Int) = P at *
  split
  · rename_i hz
    rw [hc] at hz
    have hf : fo (P + tot (udB u 0)) = 65535 := by omega
    rw [fo_top] at hf ⊢
    omega
  · rw [hc]
    rw [← hs]
    congr 1
    omega
/-- what is put is parsed as it was, whatever stands behind it. -/
theorem prs_putU (src dst : Int) (u : Ud) (R : List UInt8) (h : MayU u) : prsU src dst (putU src dst u ++ R) = (0, u) := by
  obtain ⟨g0, g2, g4, g6⟩ := ud_bytes u (chkU src dst u) R h (chkU_lo _ _ _) (chkU_hi _ _ _)
  have hl := putU_length src dst u
  have e : putU src dst u = udB u (chkU src dst u) := rfl
  have hk : (8 + (u.body.length : Int)).toNat = (putU src dst u).length := by omega
  unfold prsU
  rw [List.length_append, e, g4, g6, ← e]
  rw [if_neg (by omega), if_neg (by omega), hk, List.take_left]
  have hd : (putU src dst u).drop 8 = u.body := rfl
  rw [hd, e, g0, g2, ← e]
  cases hn : u.nosum with
  | true =>
    have hz := (chkU_zero src dst u).2 hn
    rw [if_neg (by omega), hz]
    show (0, _) = (0, u)
    rw [show ((0 : Int) == 0) = u.nosum from by rw [hn]; rfl]
  | false =>
    have hz : chkU src dst u ≠ 0 := fun h => by rw [(chkU_zero src dst u).1 h] at hn; cases hn
    rw [if_neg (by rw [sum_putU src dst u hn]; simp), show (chkU src dst u == 0) = u.nosum from by rw [hn]; simpa using hz]
theorem mayU_empty : MayU Ud.empty := ⟨by decide, by decide, by decide, by decide, by decide⟩
/-- what is read may be put, and is put as it was. -/
theorem prsU_ok (src dst : Int) (l : List UInt8) (h : (prsU src dst l).1 = 0) : MayU (prsU src dst l).2 ∧ (putU src dst (prsU src dst l).2).length ≤ l.length := by
  unfold prsU at h ⊢
  split at h
  · cases h
  · rename_i h1
    rw [if_neg h1]
    split at h
    · cases h
    · rename_i h2
      rw [if_neg h2]
      split at h
      · cases h
      · rename_i h3
        rw [if_neg h3]
        have := wd_hi l 4
        dsimp only
        rw [putU_length]
        dsimp only
        refine ⟨⟨wd_lo _ _, wd_hi _ _, wd_lo _ _, wd_hi _ _, ?_⟩, ?_⟩
        · dsimp only; rw [List.length_drop, List.length_take]; omega
        · rw [List.length_drop, List.length_take]; omega

theorem b8g (l : List UInt8) (k : Nat) (h : k < l.length) : b8 (g8 l k) = l[k] := by
  rw [g8_at l k h]
  apply UInt8.toNat_inj.1
  have := b8_is (l[k].toNat : Int) (by omega) (by have := l[k].toNat_lt; omega)
  omega
theorem take8 : ∀ (l : List UInt8), 8 ≤ l.length → l.take 8 = [b8 (g8 l 0), b8 (g8 l 1), b8 (g8 l 2), b8 (g8 l 3), b8 (g8 l 4), b8 (g8 l 5), b8 (g8 l 6), b8 (g8 l 7)] := by
  intro l h
  rw [b8g l 0 (by omega), b8g l 1 (by omega), b8g l 2 (by omega), b8g l 3 (by omega), b8g l 4 (by omega), b8g l 5 (by omega), b8g l 6 (by omega), b8g l 7 (by omega)]
  match l, h with
  | a :: b :: c :: d :: e :: f :: g :: i :: r, _ => rfl
theorem wd_hi' (l : List UInt8) (k : Nat) : wd l k / 256 = g8 l k := by have := g8_lo l (k + 1); have := g8_hi l (k + 1); unfold wd; omega
theorem wd_lo' (l : List UInt8) (k : Nat) : wd l k % 256 = g8 l (k + 1) := by have := g8_lo l (k + 1); have := g8_hi l (k + 1); unfold wd; omega
theorem g8_takeU (l : List UInt8) (n k : Nat) (h : k < n) : g8 (l.take n) k = g8 l k := by
  unfold g8
  rw [List.getD, List.getD, List.getElem?_take]
  simp [h]
theorem wd_takeU (l : List UInt8) (n k : Nat) (h : k + 1 < n) : wd (l.take n) k = wd l k := by
  unfold wd; rw [g8_takeU l n k (by omega), g8_takeU l n (k + 1) h]
theorem sumT_pos (src dst : Int) (hs : 0 ≤ src) (hd : 0 ≤ dst) (l : List UInt8) : 0 < pseudo src dst 17 ((l.length : Nat) : Int) + tot l := by
  have := tot_lo l
  have h : 0 < pseudo src dst 17 ((l.length : Nat) : Int) := by
    unfold pseudo fo
    rw [if_neg (by omega)]
    omega
  omega
/-- what is read is put as it was. -/
theorem prsU_back (src dst : Int) (hs : 0 ≤ src) (hd : 0 ≤ dst) (l : List UInt8) (h : (prsU src dst l).1 = 0) : putU src dst (prsU src dst l).2 = l.take (putU src dst (prsU src dst l).2).length := by
  obtain ⟨hM, hL⟩ := prsU_ok src dst l h
  unfold prsU at h
  split at h
  · cases h
  · rename_i h1
    split at h
    · cases h
    · rename_i h2
      split at h
      · cases h
      · rename_i h3
        have e : (prsU src dst l).2 = ⟨wd l 0, wd l 2, wd l 6 == 0, (l.take (wd l 4).toNat).drop 8⟩ := by
          unfold prsU; rw [if_neg h1, if_neg h2, if_neg h3]
        rw [e]
        have h4 := wd_hi l 4
        obtain ⟨n, hn⟩ : ∃ n : Nat, (n : Int) = wd l 4 := ⟨(wd l 4).toNat, by omega⟩
        have hnn : (wd l 4).toNat = n := by omega
        rw [hnn] at h3 ⊢
        have hb : ((l.take n).drop 8).length = n - 8 := by rw [List.length_drop, List.length_take]; omega
        rw [putU_length]
        dsimp only
        rw [hb, show 8 + (n - 8) = n by omega]
        have hcheck : chkU src dst ⟨wd l 0, wd l 2, wd l 6 == 0, (l.take n).drop 8⟩ = wd l 6 → putU src dst ⟨wd l 0, wd l 2, wd l 6 == 0, (l.take n).drop 8⟩ = l.take n := by
          intro hc
          unfold putU
          rw [hc]
          unfold udB
          dsimp only
          rw [hb, show (8 : Int) + ((n - 8 : Nat) : Int) = wd l 4 by omega]
          simp only [wd_hi', wd_lo', Nat.reduceAdd]
          have := take8 (l.take n) (by rw [List.length_take]; omega)
          rw [g8_takeU l n 0 (by omega), g8_takeU l n 1 (by omega), g8_takeU l n 2 (by omega), g8_takeU l n 3 (by omega), g8_takeU l n 4 (by omega), g8_takeU l n 5 (by omega), g8_takeU l n 6 (by omega), g8_takeU l n 7 (by omega)] at this
          rw [← this, List.take_append_drop]
        apply hcheck
        by_cases hz : wd l 6 = 0
        · rw [hz]; rfl
        · have hz6 := wd_lo l 6
          have hz7 := wd_hi l 6
          have hsum : sumT 17 src dst (l.take n) = 65535 := by
            by_cases hq : sumT 17 src dst (l.take n) = 65535
            · exact hq
            · exact absurd ⟨by omega, hq⟩ h3
          have hx : l.take n = udB ⟨wd l 0, wd l 2, wd l 6 == 0, (l.take n).drop 8⟩ (wd l 6) := by
            unfold udB
            dsimp only
            rw [hb, show (8 : Int) + ((n - 8 : Nat) : Int) = wd l 4 by omega]
            simp only [wd_hi', wd_lo', Nat.reduceAdd]
            have := take8 (l.take n) (by rw [List.length_take]; omega)
            rw [g8_takeU l n 0 (by omega), g8_takeU l n 1 (by omega), g8_takeU l n 2 (by omega), g8_takeU l n 3 (by omega), g8_takeU l n 4 (by omega), g8_takeU l n 5 (by omega), g8_takeU l n 6 (by omega), g8_takeU l n 7 (by omega)] at this
            rw [← this, List.take_append_drop]
          rw [hx] at hsum
          have hnb : (wd l 6 == 0) = false := by simpa using hz
          rw [hnb] at hsum ⊢
          generalize hu : (⟨wd l 0, wd l 2, false, (l.take n).drop 8⟩ : Ud) = u at hsum
          have hnu : u.nosum = false := by rw [← hu]
          unfold sumT at hsum
          have hl : (udB u (wd l 6)).length = (udB u 0).length := by rw [udB_length, udB_length]
          have p0 := pseudo_lo src dst 17 (((udB u 0).length : Nat) : Int)
          have t0 := tot_lo (udB u 0)
          have pp := sumT_pos src dst hs hd (udB u 0)
          rw [hl, tot_ud u _ hz6 hz7, fo_fo' _ _ p0 (by omega)] at hsum
          unfold chkU
          rw [if_neg (by rw [hnu]; simp)]
          have hc : chkU0 src dst u = 65535 - fo (pseudo src dst 17 ((udB u 0).length : Int) + tot (udB u 0)) := by
            unfold chkU0 sumT; rw [fo_fo' _ _ p0 t0]
          generalize pseudo src dst 17 ((udB u 0).length : Int) = P at *
          have hf := fo_hi (P + tot (udB u 0))
          have hl' := fo_lo (P + tot (udB u 0))
          rw [fo_top] at hsum
          have hfe : fo (P + tot (udB u 0)) = (P + tot (udB u 0) - 1) % 65535 + 1 := by unfold fo; rw [if_neg (by omega)]
          rw [hc, hfe]
          split <;> omega
/-- one byte that is another is seen, unless there is no sum then. -/
theorem spoiltU (src dst : Int) (u : Ud) (h : MayU u) (hn : u.nosum = false) (i : Nat) (b : UInt8) (hi : i < 8 + u.body.length) (h4 : i ≠ 4) (h5 : i ≠ 5) (hb : b ≠ (putU src dst u)[i]'(by rw [putU_length]; omega)) :
    (prsU src dst ((putU src dst u).set i b)).1 ≠ 0 ∨ ((prsU src dst ((putU src dst u).set i b)).2.nosum = true ∧ g8 ((putU src dst u).set i b) 6 = 0 ∧ g8 ((putU src dst u).set i b) 7 = 0) := by
  have hl := putU_length src dst u
  have hls : ((putU src dst u).set i b).length = 8 + u.body.length := by rw [List.length_set, hl]
  have g4 := (ud_bytes u (chkU src dst u) [] h (chkU_lo _ _ _) (chkU_hi _ _ _)).2.2.1
  rw [List.append_nil] at g4
  have e4 : wd ((putU src dst u).set i b) 4 = 8 + (u.body.length : Int) := by
    rw [← g4]
    show _ = wd (putU src dst u) 4
    unfold wd
    rw [g8_at _ 4 (by omega), g8_at _ 5 (by omega), g8_at _ 4 (by omega), g8_at _ 5 (by omega), List.getElem_set_ne h4, List.getElem_set_ne h5]
  have fit := h.fit
  have ht : ((putU src dst u).set i b).take (8 + (u.body.length : Int)).toNat = (putU src dst u).set i b := by
    rw [List.take_of_length_le (by omega)]
  unfold prsU
  rw [e4, if_neg (by omega), if_neg (by omega), ht]
  have hs := sum_one 17 src dst _ i b (by omega) hb (sum_putU src dst u hn)
  by_cases hz : wd ((putU src dst u).set i b) 6 = 0
  · right
    rw [if_neg (by omega), hz]
    have a := g8_lo ((putU src dst u).set i b) 6
    have c := g8_lo ((putU src dst u).set i b) 7
    simp only [wd, Nat.reduceAdd] at hz
    refine ⟨rfl, by omega, by omega⟩
  · left
    have := wd_lo ((putU src dst u).set i b) 6
    rw [if_pos ⟨by omega, hs⟩]
    simp
end Go.Proofs.Ytmgkkgpdnopeaaa

/- Messages of control and their bytes, and the packets that they are about: plain mathematics. No condition beyond bounds. -/
namespace Go.Proofs.Ytmgkkgpdnopeaaa
open Go.RowKit
set_option linter.unusedVariables false

structure Ic where
  type : Int
  code : Int
  rest : Int
  body : List UInt8
def Ic.empty : Ic := ⟨0, 0, 0, []⟩
def sameI (a b : Ic) : Bool := a.type == b.type && (a.code == b.code && (a.rest == b.rest && a.body == b.body))
theorem sameI_iff (a b : Ic) : sameI a b = true ↔ a = b := by cases a; cases b; simp [sameI]
def icB (m : Ic) (c : Int) : List UInt8 := [b8 m.type, b8 m.code, b8 (c / 256), b8 (c % 256), b8 (m.rest / 16777216), b8 (m.rest / 65536 % 256), b8 (m.rest / 256 % 256), b8 (m.rest % 256)] ++ m.body
theorem icB_length (m : Ic) (c : Int) : (icB m c).length = 8 + m.body.length := by simp [icB]; omega
def chkI (m : Ic) : Int := 65535 - fo (tot (icB m 0))
theorem chkI_lo (m : Ic) : 0 ≤ chkI m := by unfold chkI; have := fo_hi (tot (icB m 0)); omega
theorem chkI_hi (m : Ic) : chkI m ≤ 65535 := by unfold chkI; have := fo_lo (tot (icB m 0)); omega
def putI (m : Ic) : List UInt8 := icB m (chkI m)
theorem putI_length (m : Ic) : (putI m).length = 8 + m.body.length := icB_length _ _
structure MayI (m : Ic) : Prop where
  t0 : 0 ≤ m.type
  t1 : m.type ≤ 255
  c0 : 0 ≤ m.code
  c1 : m.code ≤ 255
  fit : m.body.length ≤ 65527
def mayI (m : Ic) : Bool := inB m.type 255 && (inB m.code 255 && decide (m.body.length ≤ 65527))
theorem mayI_iff (m : Ic) : mayI m = true ↔ MayI m := by
  unfold mayI inB
  simp only [Bool.and_eq_true, decide_eq_true_eq]
  exact ⟨fun ⟨⟨a, b⟩, ⟨c, d⟩, e⟩ => ⟨a, b, c, d, e⟩, fun h => ⟨⟨h.t0, h.t1⟩, ⟨h.c0, h.c1⟩, h.fit⟩⟩
def errK (k : Int) : Bool := k == 3 || (k == 4 || (k == 11 || k == 12))
def prsI (l : List UInt8) : Int × Ic :=
  if l.length < 8 then (2, Ic.empty)
  else if 65535 < l.length then (4, Ic.empty)
  else if fo (tot l) ≠ 65535 then (5, Ic.empty)
  else (0, ⟨g8 l 0, g8 l 1, ad4 l 4, l.drop 8⟩)

/-- the sum is taken without its own place: that of a word 0. -/
theorem tot_skip (m : Ic) : tot ([b8 m.type, b8 m.code] ++ ([b8 (m.rest / 16777216), b8 (m.rest / 65536 % 256), b8 (m.rest / 256 % 256), b8 (m.rest % 256)] ++ m.body)) = tot (icB m 0) := by
  have z : b8 ((0 : Int) / 256) = 0 := rfl
  have z' : b8 ((0 : Int) % 256) = 0 := rfl
  unfold icB
  rw [z, z']
  simp [tot]
theorem ic_bytes (m : Ic) (c : Int) (h : MayI m) (hr : 0 ≤ m.rest ∧ m.rest ≤ 4294967295) : g8 (icB m c) 0 = m.type ∧ g8 (icB m c) 1 = m.code ∧ ad4 (icB m c) 4 = m.rest := by
  obtain ⟨t0, t1, c0, c1, fit⟩ := h
  unfold icB ad4 wd
  simp only [List.cons_append, List.nil_append, Nat.reduceAdd]
  refine ⟨?_, ?_, ?_⟩ <;> simp only [show ∀ (a : UInt8) (r : List UInt8), g8 (a :: r) 0 = (a.toNat : Int) from fun _ _ => rfl, show ∀ (a : UInt8) (r : List UInt8) (k : Nat), g8 (a :: r) (k + 1) = g8 r k from fun _ _ _ => rfl]
  · rw [b8_is _ (by omega) (by omega)]
  · rw [b8_is _ (by omega) (by omega)]
  · rw [b8_is _ (by omega) (by omega), b8_is _ (by omega) (by omega), b8_is _ (by omega) (by omega), b8_is _ (by omega) (by omega)]; omega
theorem ic_set (m : Ic) (c : Int) : ((icB m 0).set 2 (b8 (c / 256))).set (2 + 1) (b8 (c % 256)) = icB m c := by
  unfold icB
  simp only [List.set_cons_succ, List.set_cons_zero, Nat.reduceAdd, List.cons_append, List.nil_append]
theorem tot_ic (m : Ic) (c : Int) (h0 : 0 ≤ c) (h1 : c ≤ 65535) : tot (icB m c) = tot (icB m 0) + c := by
  rw [← ic_set m c]
  have := tot_set 1 (icB m 0) (b8 (c / 256)) (b8 (c % 256)) (by rw [icB_length]; omega)
  simp only [Nat.reduceMul, Nat.reduceAdd] at this
  simp only [Nat.reduceAdd]
  have z : (icB m 0)[2]'(by rw [icB_length]; omega) = 0 := rfl
  have z1 : (icB m 0)[3]'(by rw [icB_length]; omega) = 0 := rfl
  rw [this, z, z1, b8_is _ (by omega) (by omega), b8_is _ (by omega) (by omega)]
  simp; omega
theorem sum_putI (m : Ic) : fo (tot (putI m)) = 65535 := by
  have := stands (tot (icB m 0)) (tot_lo _)
  unfold putI
  rw [tot_ic m _ (chkI_lo m) (chkI_hi m)]
  exact this
/-- what is put is parsed as it was. -/
theorem prs_putI (m : Ic) (h : MayI m) (hr : 0 ≤ m.rest ∧ m.rest ≤ 4294967295) : prsI (putI m) = (0, m) := by
  obtain ⟨g0, g1, g4⟩ := ic_bytes m (chkI m) h hr
  have hl := putI_length m
  have fit := h.fit
  have e : putI m = icB m (chkI m) := rfl
  unfold prsI
  rw [if_neg (by omega), if_neg (by omega), if_neg (by rw [sum_putI]; simp), e, g0, g1, g4]
  rfl
theorem prsI_ok (l : List UInt8) (h : (prsI l).1 = 0) : MayI (prsI l).2 ∧ (0 ≤ (prsI l).2.rest ∧ (prsI l).2.rest ≤ 4294967295) ∧ (putI (prsI l).2).length = l.length ∧ (putI (prsI l).2).drop 4 = l.drop 4 ∧ g8 (putI (prsI l).2) 0 = g8 l 0 ∧ g8 (putI (prsI l).2) 1 = g8 l 1 := by
  unfold prsI at h
  split at h
  · cases h
  · rename_i h1
    split at h
    · cases h
    · rename_i h2
      split at h
      · cases h
      · rename_i h3
        have e : (prsI l).2 = ⟨g8 l 0, g8 l 1, ad4 l 4, l.drop 8⟩ := by unfold prsI; rw [if_neg h1, if_neg h2, if_neg h3]
        rw [e]
        have hM : MayI ⟨g8 l 0, g8 l 1, ad4 l 4, l.drop 8⟩ := ⟨g8_lo _ _, g8_hi _ _, g8_lo _ _, g8_hi _ _, by dsimp only; rw [List.length_drop]; omega⟩
        have hr : 0 ≤ ad4 l 4 ∧ ad4 l 4 ≤ 4294967295 := ⟨ad4_lo _ _, ad4_hi _ _⟩
        obtain ⟨g0, g1, _⟩ := ic_bytes ⟨g8 l 0, g8 l 1, ad4 l 4, l.drop 8⟩ (chkI ⟨g8 l 0, g8 l 1, ad4 l 4, l.drop 8⟩) hM hr
        refine ⟨hM, hr, ?_, ?_, g0, g1⟩
        · rw [putI_length]; dsimp only; rw [List.length_drop]; omega
        · unfold putI icB
          dsimp only
          have a4 := g8_lo l 4
          have a5 := g8_lo l 5
          have a6 := g8_lo l 6
          have a7 := g8_lo l 7
          have b4 := g8_hi l 4
          have b5 := g8_hi l 5
          have b6 := g8_hi l 6
          have b7 := g8_hi l 7
          have e1 : ad4 l 4 / 16777216 = g8 l 4 := by simp only [ad4, wd, Nat.reduceAdd]; omega
          have e2 : ad4 l 4 / 65536 % 256 = g8 l 5 := by simp only [ad4, wd, Nat.reduceAdd]; omega
          have e3 : ad4 l 4 / 256 % 256 = g8 l 6 := by simp only [ad4, wd, Nat.reduceAdd]; omega
          have e4 : ad4 l 4 % 256 = g8 l 7 := by simp only [ad4, wd, Nat.reduceAdd]; omega
          rw [e1, e2, e3, e4, b8g l 4 (by omega), b8g l 5 (by omega), b8g l 6 (by omega), b8g l 7 (by omega)]
          have h8 : 8 ≤ l.length := by omega
          rw [List.drop_eq_getElem_cons (l := l) (i := 4) (by omega), List.drop_eq_getElem_cons (l := l) (i := 5) (by omega), List.drop_eq_getElem_cons (l := l) (i := 6) (by omega), List.drop_eq_getElem_cons (l := l) (i := 7) (by omega)]
          rfl

/-- the packet that an error is about: its first error, or it. -/
def aboutI (m : Ic) : Int × Pk :=
  if errK m.type = false then (1, Pk.empty)
  else if m.body.length < 20 then (2, Pk.empty)
  else if g8 m.body 0 / 16 ≠ 4 ∨ headN m.body < 20 ∨ (m.body.length : Int) < headN m.body then (3, Pk.empty)
  else if wd m.body 2 < headN m.body then (4, Pk.empty)
  else if fo (tot (m.body.take (headN m.body).toNat)) ≠ 65535 then (5, Pk.empty)
  else if (m.body.length : Int) - headN m.body < 8 ∧ (m.body.length : Int) < wd m.body 2 then (2, Pk.empty)
  else (0, ⟨g8 m.body 1, wd m.body 4, decide (wd m.body 6 / 16384 % 2 = 1), decide (wd m.body 6 / 8192 % 2 = 1), wd m.body 6 % 8192 * 8, g8 m.body 8, g8 m.body 9, ad4 m.body 12, ad4 m.body 16, (m.body.take (headN m.body).toNat).drop 20, (m.body.take (wd m.body 2).toNat).drop (headN m.body).toNat⟩)
/-- is this packet itself an error's? -/
def ownErr (p : Pk) : Bool := p.proto == 1 && (decide (0 < p.body.length) && errK (g8 p.body 0))
/-- an error that is told of a packet. -/
def tellI (kind code rest : Int) (l : List UInt8) : Int × Ic :=
  if errK kind = false ∨ code < 0 ∨ 255 < code then (1, Ic.empty)
  else if (prs l).1 ≠ 0 then ((prs l).1, Ic.empty)
  else if 0 < (prs l).2.off ∨ ownErr (prs l).2 = true then (14, Ic.empty)
  else (0, ⟨kind, code, rest, l.take (20 + (prs l).2.opts.length + min 8 (prs l).2.body.length)⟩)

theorem putB_front (p : Pk) : (putB p).take (20 + p.opts.length + min 8 p.body.length) = hd p (chk p) ++ p.body.take 8 := by
  have h : 20 + p.opts.length = (hd p (chk p)).length := by rw [hd_length]
  unfold putB
  rw [h, List.take_length_add_append]
  congr 1
  by_cases h8 : p.body.length ≤ 8
  · rw [Nat.min_eq_right h8, List.take_of_length_le (Nat.le_refl _), List.take_of_length_le h8]
  · rw [Nat.min_eq_left (by omega)]
/-- an error that is told of a packet is about that one: its head, and the beginning of its body. -/
theorem about_front (p : Pk) (h : May p) (hr : Rng p) (x : Ic) (ht : errK x.type = true) (hb : x.body = (putB p).take (20 + p.opts.length + min 8 p.body.length)) :
    aboutI x = (0, ⟨p.tos, p.id, p.df, p.mf, p.off, p.ttl, p.proto, p.src, p.dst, p.opts, p.body.take 8⟩) := by
  rw [putB_front] at hb
  obtain ⟨g0, g1, g2, g4, g6, g8', g9, g12, g16⟩ := put_bytes p (chk p) (p.body.take 8) h hr (chk_lo p) (chk_hi p)
  have hl : ((hd p (chk p) ++ p.body.take 8).length : Int) = hln p + (min 8 p.body.length : Nat) := by rw [List.length_append, hd_length, List.length_take]; unfold hln; omega
  have hh : hln p = 20 + (p.opts.length : Int) := rfl
  have hw : whl p = hln p + (p.body.length : Int) := rfl
  have p4 := h.p4
  have p40 := h.p40
  obtain ⟨d1, d2, d3, d4, d5⟩ := flg_parts p h
  have hn : headN (hd p (chk p) ++ p.body.take 8) = hln p := by unfold headN; rw [g0]; omega
  have e1 : ((hd p (chk p)).drop 20) = p.opts := by
    unfold hd
    rw [List.drop_append_of_le_length (by simp [hd20])]
    simp [hd20]
  have e2 : ((hd p (chk p) ++ p.body.take 8).take (whl p).toNat).drop (hln p).toNat = p.body.take 8 := by
    have a : (hln p).toNat = (hd p (chk p)).length := by rw [hd_length]; omega
    rw [List.take_of_length_le (by omega), a, List.drop_left]
  unfold aboutI
  rw [if_neg (by rw [ht]; simp), hb, if_neg (by omega), if_neg (by rw [g0, hn]; omega), if_neg (by rw [g2, hn]; omega), if_neg (by rw [hn, hd_take, hd_sum]; simp), if_neg (by rw [hn, g2]; omega)]
  rw [g1, g2, g4, g6, g8', g9, g12, g16, hn, hd_take, d1, d2, d3, e1, e2]
theorem tell_put (p : Pk) (h : May p) (hr : Rng p) (rest : Int) : tellI 3 1 rest (putB p) = if 0 < p.off ∨ ownErr p = true then (14, Ic.empty) else (0, ⟨3, 1, rest, (putB p).take (20 + p.opts.length + min 8 p.body.length)⟩) := by
  have e := prs_put p [] h hr
  rw [List.append_nil] at e
  unfold tellI
  rw [if_neg (by simp [errK]), e, if_neg (by simp)]
end Go.Proofs.Ytmgkkgpdnopeaaa

/- Options that are read first and asked whether they are right last: plain mathematics. -/
namespace Go.Proofs.Ytmgkkgpdnopeaaa
open Go.RowKit
set_option linter.unusedVariables false

/-- the options of these bytes, behind those that came, right or not. -/
def rOpts : Nat → List UInt8 → List Op → Option (List Op)
  | 0, _, acc => some acc
  | _ + 1, [], acc => some acc
  | f + 1, k :: r, acc =>
    if k = 0 then some acc
    else if k = 1 then rOpts f r acc
    else
      match r with
      | [] => none
      | n :: r =>
        if n.toNat < 2 ∨ r.length < n.toNat - 2 then none
        else rOpts f (r.drop (n.toNat - 2)) (acc ++ [⟨(k.toNat : Int), r.take (n.toNat - 2)⟩])
/-- what was there ahead stays ahead. -/
theorem rOpts_ahead : ∀ (f : Nat) (l : List UInt8) (acc os : List Op), rOpts f l acc = some os → ∃ b, os = acc ++ b
  | 0, l, acc, os, e => by simp only [rOpts, Option.some.injEq] at e; exact ⟨[], by simp [e]⟩
  | f + 1, [], acc, os, e => by simp only [rOpts, Option.some.injEq] at e; exact ⟨[], by simp [e]⟩
  | f + 1, [k], acc, os, e => by
    rw [rOpts] at e
    split at e
    · simp only [Option.some.injEq] at e; exact ⟨[], by simp [e]⟩
    · split at e
      · exact rOpts_ahead f [] acc os e
      · simp at e
  | f + 1, k :: n :: r, acc, os, e => by
    rw [rOpts] at e
    split at e
    · simp only [Option.some.injEq] at e; exact ⟨[], by simp [e]⟩
    · split at e
      · exact rOpts_ahead f (n :: r) acc os e
      · split at e
        · simp at e
        · obtain ⟨b, hb⟩ := rOpts_ahead f _ _ os e
          exact ⟨_, by rw [hb, List.append_assoc]⟩
theorem pOpts_rOpts : ∀ (f : Nat) (l : List UInt8) (acc : List Op), rightB acc = true → pOpts f l acc = (match rOpts f l acc with | none => none | some os => if rightB os then some os else none)
  | 0, l, acc, h => by simp [rOpts, pOpts, h]
  | f + 1, [], acc, h => by simp [rOpts, pOpts, h]
  | f + 1, [k], acc, h => by
    rw [rOpts, pOpts]
    split
    · simp [h]
    · split
      · exact pOpts_rOpts f [] acc h
      · rfl
  | f + 1, k :: n :: r, acc, h => by
    rw [rOpts, pOpts]
    split
    · simp [h]
    · split
      · exact pOpts_rOpts f (n :: r) acc h
      · split
        · rfl
        · by_cases hr : rightB (acc ++ [⟨(k.toNat : Int), r.take (n.toNat - 2)⟩]) = true
          · rw [if_pos hr]; exact pOpts_rOpts f _ _ hr
          · rw [if_neg hr]
            cases e : rOpts f (r.drop (n.toNat - 2)) (acc ++ [⟨(k.toNat : Int), r.take (n.toNat - 2)⟩]) with
            | none => rfl
            | some os =>
              obtain ⟨b, hb⟩ := rOpts_ahead f _ _ os e
              have : ¬ rightB os = true := fun hos => hr (right_prefix _ b (hb ▸ hos))
              dsimp only
              rw [if_neg this]
/-- one step of the reading, by the bytes at a place. -/
theorem rOpts_end (f : Nat) (l : List UInt8) (p : Nat) (acc : List Op) (h : l.length ≤ p) : rOpts f (l.drop p) acc = some acc := by
  rw [List.drop_of_length_le h]; cases f <;> rfl
theorem rOpts_zero (f : Nat) (l : List UInt8) (p : Nat) (acc : List Op) (h : p < l.length) (h0 : g8 l p = 0) : rOpts (f + 1) (l.drop p) acc = some acc := by
  rw [g8_at l p h] at h0
  have e : l[p] = 0 := UInt8.toNat_inj.1 (by simp; omega)
  cases hd : l.drop (p + 1) with
  | nil => rw [List.drop_eq_getElem_cons h, hd, e, rOpts, if_pos rfl]
  | cons n r => rw [List.drop_eq_getElem_cons h, hd, e, rOpts, if_pos rfl]
theorem rOpts_one (f : Nat) (l : List UInt8) (p : Nat) (acc : List Op) (h : p < l.length) (h1 : g8 l p = 1) : rOpts (f + 1) (l.drop p) acc = rOpts f (l.drop (p + 1)) acc := by
  rw [g8_at l p h] at h1
  have e : l[p] = 1 := UInt8.toNat_inj.1 (by simp; omega)
  cases hd : l.drop (p + 1) with
  | nil => rw [List.drop_eq_getElem_cons h, hd, e, rOpts, if_neg (by decide), if_pos rfl]
  | cons n r => rw [List.drop_eq_getElem_cons h, hd, e, rOpts, if_neg (by decide), if_pos rfl]
theorem rOpts_bad (f : Nat) (l : List UInt8) (p : Nat) (acc : List Op) (h : p < l.length) (h0 : g8 l p ≠ 0) (h1 : g8 l p ≠ 1) (hb : l.length ≤ p + 1 ∨ g8 l (p + 1) < 2 ∨ (l.length : Int) < p + g8 l (p + 1)) : rOpts (f + 1) (l.drop p) acc = none := by
  rw [g8_at l p h] at h0 h1
  have e0 : ¬ l[p] = 0 := fun e => h0 (by rw [e]; rfl)
  have e1 : ¬ l[p] = 1 := fun e => h1 (by rw [e]; rfl)
  rw [List.drop_eq_getElem_cons h]
  by_cases hl : p + 1 < l.length
  · rw [List.drop_eq_getElem_cons hl, rOpts, if_neg e0, if_neg e1]
    rw [g8_at l (p + 1) hl] at hb
    rw [if_pos]
    rw [List.length_drop]
    rcases hb with hb | hb | hb
    · omega
    · left; omega
    · by_cases h2 : (l[p + 1]).toNat < 2
      · left; exact h2
      · right; omega
  · rw [List.drop_of_length_le (by omega), rOpts, if_neg e0, if_neg e1]
theorem rOpts_step (f : Nat) (l : List UInt8) (p : Nat) (acc : List Op) (n : Nat) (hn : (n : Int) = g8 l (p + 1)) (h : p + 1 < l.length) (h0 : g8 l p ≠ 0) (h1 : g8 l p ≠ 1) (h2 : 2 ≤ n) (h3 : p + n ≤ l.length) :
    rOpts (f + 1) (l.drop p) acc = rOpts f (l.drop (p + n)) (acc ++ [⟨g8 l p, (l.take (p + n)).drop (p + 2)⟩]) := by
  rw [g8_at l (p + 1) h] at hn
  have hk := g8_at l p (by omega)
  rw [hk] at h0 h1 ⊢
  have e0 : ¬ l[p] = 0 := fun e => h0 (by rw [e]; rfl)
  have e1 : ¬ l[p] = 1 := fun e => h1 (by rw [e]; rfl)
  have hn' : l[p + 1].toNat = n := by omega
  rw [List.drop_eq_getElem_cons (show p < l.length by omega), List.drop_eq_getElem_cons h, rOpts, if_neg e0, if_neg e1]
  rw [hn', if_neg (by rw [List.length_drop]; omega)]
  have d1 : (l.drop (p + 1 + 1)).drop (n - 2) = l.drop (p + n) := by rw [List.drop_drop]; congr 1; omega
  have d2 : (l.drop (p + 1 + 1)).take (n - 2) = (l.take (p + n)).drop (p + 2) := by rw [List.drop_take]; congr 1; omega
  rw [d1, d2]

/-- how long the head says that it is, if that fits; or the first error. -/
def tmE (l : List UInt8) : Int := if 65535 < l.length then 4 else if l.length < 20 then 2 else if tsz l < 20 ∨ (l.length : Int) < tsz l then 3 else 0
def tmH (l : List UInt8) : Int := if tmE l = 0 then tsz l else 0
theorem tmE_ok {l : List UInt8} (h : tmE l = 0) : l.length ≤ 65535 ∧ 20 ≤ l.length ∧ 20 ≤ tsz l ∧ tsz l ≤ l.length ∧ tsz l ≤ 60 := by
  unfold tmE at h
  split at h
  · cases h
  · split at h
    · cases h
    · split at h
      · cases h
      · have := g8_hi l 12
        have : tsz l = g8 l 12 / 16 * 4 := rfl
        omega
theorem prsT_meas {src dst : Int} {l : List UInt8} (h : tmE l ≠ 0) : prsT src dst l = (tmE l, Tc.empty) := by
  unfold prsT
  unfold tmE at h ⊢
  split
  · rfl
  · split
    · rfl
    · split
      · rfl
      · rename_i h1 h2 h3
        rw [if_neg h1, if_neg h2, if_neg h3] at h
        exact absurd rfl h
/-- what is read, the head's length and the sum being right. -/
theorem prsT_read {src dst : Int} {l : List UInt8} (h : tmE l = 0) (hs : sumT 6 src dst l = 65535) : prsT src dst l =
    (match rOpts 60 ((l.take (tsz l).toNat).drop 20) [] with
    | none => (6, Tc.empty)
    | some os => if rightB os = true then (0, ⟨wd l 0, wd l 2, ad4 l 4, ad4 l 8, g8 l 13, wd l 14, wd l 18, os, l.drop (tsz l).toNat⟩) else (6, Tc.empty)) := by
  obtain ⟨m1, m2, m3, m4, m5⟩ := tmE_ok h
  unfold prsT
  rw [if_neg (by omega), if_neg (by omega), if_neg (by omega), if_neg (by omega), pOpts_rOpts 60 _ [] right_nil]
  cases rOpts 60 ((l.take (tsz l).toNat).drop 20) [] with
  | none => rfl
  | some os =>
    dsimp only
    split <;> rename_i hr
    · split at hr
      · cases hr
      · rename_i hb; rw [if_neg hb]
    · split at hr
      · rename_i hb; rw [if_pos hb]; cases hr; rfl
      · cases hr
end Go.Proofs.Ytmgkkgpdnopeaaa

/- Options that are asked one by one, by the bytes at a place: plain mathematics. -/
namespace Go.Proofs.Ytmgkkgpdnopeaaa
open Go.RowKit
set_option linter.unusedVariables false

theorem pOpts_end (f : Nat) (l : List UInt8) (p : Nat) (acc : List Op) (h : l.length ≤ p) : pOpts f (l.drop p) acc = some acc := by
  rw [List.drop_of_length_le h]; cases f <;> rfl
theorem pOpts_zero (f : Nat) (l : List UInt8) (p : Nat) (acc : List Op) (h : p < l.length) (h0 : g8 l p = 0) : pOpts (f + 1) (l.drop p) acc = some acc := by
  rw [g8_at l p h] at h0
  have e : l[p] = 0 := UInt8.toNat_inj.1 (by simp; omega)
  cases hd : l.drop (p + 1) with
  | nil => rw [List.drop_eq_getElem_cons h, hd, e, pOpts, if_pos rfl]
  | cons n r => rw [List.drop_eq_getElem_cons h, hd, e, pOpts, if_pos rfl]
theorem pOpts_one (f : Nat) (l : List UInt8) (p : Nat) (acc : List Op) (h : p < l.length) (h1 : g8 l p = 1) : pOpts (f + 1) (l.drop p) acc = pOpts f (l.drop (p + 1)) acc := by
  rw [g8_at l p h] at h1
  have e : l[p] = 1 := UInt8.toNat_inj.1 (by simp; omega)
  cases hd : l.drop (p + 1) with
  | nil => rw [List.drop_eq_getElem_cons h, hd, e, pOpts, if_neg (by decide), if_pos rfl]
  | cons n r => rw [List.drop_eq_getElem_cons h, hd, e, pOpts, if_neg (by decide), if_pos rfl]
theorem pOpts_bad (f : Nat) (l : List UInt8) (p : Nat) (acc : List Op) (h : p < l.length) (h0 : g8 l p ≠ 0) (h1 : g8 l p ≠ 1) (hb : l.length ≤ p + 1 ∨ g8 l (p + 1) < 2 ∨ (l.length : Int) < p + g8 l (p + 1)) : pOpts (f + 1) (l.drop p) acc = none := by
  rw [g8_at l p h] at h0 h1
  have e0 : ¬ l[p] = 0 := fun e => h0 (by rw [e]; rfl)
  have e1 : ¬ l[p] = 1 := fun e => h1 (by rw [e]; rfl)
  rw [List.drop_eq_getElem_cons h]
  by_cases hl : p + 1 < l.length
  · rw [List.drop_eq_getElem_cons hl, pOpts, if_neg e0, if_neg e1]
    rw [g8_at l (p + 1) hl] at hb
    rw [if_pos]
    rw [List.length_drop]
    rcases hb with hb | hb | hb
    · omega
    · left; omega
    · by_cases h2 : (l[p + 1]).toNat < 2
      · left; exact h2
      · right; omega
  · rw [List.drop_of_length_le (by omega), pOpts, if_neg e0, if_neg e1]
theorem pOpts_step (f : Nat) (l : List UInt8) (p : Nat) (acc : List Op) (n : Nat) (hn : (n : Int) = g8 l (p + 1)) (h : p + 1 < l.length) (h0 : g8 l p ≠ 0) (h1 : g8 l p ≠ 1) (h2 : 2 ≤ n) (h3 : p + n ≤ l.length) :
    pOpts (f + 1) (l.drop p) acc = if rightB (acc ++ [⟨g8 l p, (l.take (p + n)).drop (p + 2)⟩]) then pOpts f (l.drop (p + n)) (acc ++ [⟨g8 l p, (l.take (p + n)).drop (p + 2)⟩]) else none := by
  rw [g8_at l (p + 1) h] at hn
  have hk := g8_at l p (by omega)
  rw [hk] at h0 h1 ⊢
  have e0 : ¬ l[p] = 0 := fun e => h0 (by rw [e]; rfl)
  have e1 : ¬ l[p] = 1 := fun e => h1 (by rw [e]; rfl)
  have hn' : l[p + 1].toNat = n := by omega
  rw [List.drop_eq_getElem_cons (show p < l.length by omega), List.drop_eq_getElem_cons h, pOpts, if_neg e0, if_neg e1]
  rw [hn', if_neg (by rw [List.length_drop]; omega)]
  have d1 : (l.drop (p + 1 + 1)).drop (n - 2) = l.drop (p + n) := by rw [List.drop_drop]; congr 1; omega
  have d2 : (l.drop (p + 1 + 1)).take (n - 2) = (l.take (p + n)).drop (p + 2) := by rw [List.drop_take]; congr 1; omega
  rw [d1, d2]
end Go.Proofs.Ytmgkkgpdnopeaaa

/- Tuples: who speaks to whom: plain mathematics. -/
namespace Go.Proofs.Ytmgkkgpdnopeaaa
open Go.RowKit
set_option linter.unusedVariables false

structure Tp where
  proto : Int
  src : Int
  sport : Int
  dst : Int
  dport : Int
abbrev tp0 : Tp := ⟨0, 0, 0, 0, 0⟩
def sameTp (a b : Tp) : Bool := a.proto == b.proto && (a.src == b.src && (a.sport == b.sport && (a.dst == b.dst && a.dport == b.dport)))
theorem sameTp_iff (a b : Tp) : sameTp a b = true ↔ a = b := by cases a; cases b; simp [sameTp]
/-- what a tuple's numbers may be in memory. -/
structure RngTp (t : Tp) : Prop where
  s0 : 0 ≤ t.src
  s1 : t.src ≤ 4294967295
  d0 : 0 ≤ t.dst
  d1 : t.dst ≤ 4294967295
def turnT (t : Tp) : Tp := ⟨t.proto, t.dst, t.dport, t.src, t.sport⟩
theorem turn_turn (t : Tp) : turnT (turnT t) = t := rfl
def inT (n m : Int) : Bool := decide (0 ≤ n) && decide (n < m)
def rightT (t : Tp) : Bool := inT t.proto 256 && (inT t.sport 65536 && inT t.dport 65536)
theorem rightT_iff (t : Tp) : rightT t = true ↔ (0 ≤ t.proto ∧ t.proto < 256) ∧ (0 ≤ t.sport ∧ t.sport < 65536) ∧ (0 ≤ t.dport ∧ t.dport < 65536) := by simp [rightT, inT]
theorem right_turn (t : Tp) : rightT (turnT t) = rightT t := by
  rw [Bool.eq_iff_iff, rightT_iff, rightT_iff]
  unfold turnT
  dsimp only
  omega
theorem turn_same (t : Tp) : turnT t = t ↔ t.src = t.dst ∧ t.sport = t.dport := by
  cases t
  simp [turnT]
  omega
/-- the numbers of a tuple, as its bytes have them, the weightiest first. -/
def numsT (t : Tp) : List Int := [t.proto % 256, t.src, t.sport % 65536, t.dst, t.dport % 65536]
def lessL : List Int → List Int → Bool
  | a :: x, b :: y => if a = b then lessL x y else decide (a < b)
  | _, _ => false
def lessT (a b : Tp) : Bool := lessL (numsT a) (numsT b)
theorem lessL_irr : ∀ x : List Int, lessL x x = false
  | [] => rfl
  | a :: x => by rw [lessL, if_pos rfl]; exact lessL_irr x
theorem lessL_asym : ∀ x y : List Int, lessL x y = true → lessL y x = false
  | [], [], h => by cases h
  | [], _ :: _, h => by cases h
  | _ :: _, [], h => by cases h
  | a :: x, b :: y, h => by
    rw [lessL] at h ⊢
    split at h
    · rename_i e; rw [if_pos e.symm]; exact lessL_asym x y h
    · rename_i e
      rw [if_neg (fun e' => e e'.symm)]
      simp at h ⊢
      omega
theorem lessL_total : ∀ x y : List Int, x.length = y.length → x ≠ y → lessL x y = true ∨ lessL y x = true
  | [], [], _, h => absurd rfl h
  | [], _ :: _, h, _ => by cases h
  | _ :: _, [], h, _ => by cases h
  | a :: x, b :: y, hl, h => by
    rw [lessL, lessL]
    by_cases e : a = b
    · rw [if_pos e, if_pos e.symm]
      exact lessL_total x y (by simpa using hl) (fun h' => h (by rw [e, h']))
    · rw [if_neg e, if_neg (fun e' => e e'.symm)]
      simp only [decide_eq_true_eq]
      omega
theorem lessL_trans : ∀ x y z : List Int, lessL x y = true → lessL y z = true → lessL x z = true
  | [], _, _, h, _ => by cases h
  | _ :: _, [], _, h, _ => by cases h
  | _ :: _, _ :: _, [], _, h => by cases h
  | a :: x, b :: y, c :: z, h1, h2 => by
    rw [lessL] at h1 h2 ⊢
    by_cases e1 : a = b
    · rw [if_pos e1] at h1
      by_cases e2 : b = c
      · rw [if_pos e2] at h2
        rw [if_pos (e1.trans e2)]
        exact lessL_trans x y z h1 h2
      · rw [if_neg e2] at h2
        rw [if_neg (fun e => e2 (e1 ▸ e)), e1]
        exact h2
    · rw [if_neg e1] at h1
      by_cases e2 : b = c
      · rw [if_neg (fun e => e1 (e.trans e2.symm)), ← e2]
        exact h1
      · rw [if_neg e2] at h2
        simp only [decide_eq_true_eq] at h1 h2
        rw [if_neg (by omega)]
        simp only [decide_eq_true_eq]
        omega
/-- right tuples whose numbers are the same are the same. -/
theorem nums_right {a b : Tp} (ha : rightT a = true) (hb : rightT b = true) (h : numsT a = numsT b) : a = b := by
  rw [rightT_iff] at ha hb
  cases a
  cases b
  simp [numsT] at h
  dsimp only at ha hb
  simp only [Tp.mk.injEq]
  omega
theorem order_two {a b : Tp} (ha : rightT a = true) (hb : rightT b = true) : (lessT a b && lessT b a) = false ∧ (lessT a b || lessT b a) = !sameTp a b := by
  unfold lessT
  by_cases h : a = b
  · subst h
    rw [lessL_irr, (sameTp_iff a a).2 rfl]
    exact ⟨rfl, rfl⟩
  · have hs : sameTp a b = false := by
      cases hq : sameTp a b
      · rfl
      · exact absurd ((sameTp_iff a b).1 hq) h
    rw [hs]
    rcases lessL_total (numsT a) (numsT b) rfl (fun e => h (nums_right ha hb e)) with k | k
    · rw [k, lessL_asym _ _ k]; exact ⟨rfl, rfl⟩
    · rw [k, lessL_asym _ _ k]; exact ⟨rfl, rfl⟩
theorem order_three {a b c : Tp} (h1 : lessT a b = true) (h2 : lessT b c = true) : lessT a c = true := lessL_trans _ _ _ h1 h2
/-- a byte into the hash. -/
def hashS (h c : Int) : Int := (bits .xor .u32 h c * 16777619) % 4294967296
def hashL (h : Int) (l : List Int) : Int := l.foldl hashS h
/-- the bytes of a tuple. -/
def bytesT (t : Tp) : List Int := [t.proto % 256, t.src / 16777216, t.src / 65536 % 256, t.src / 256 % 256, t.src % 256, t.sport % 65536 / 256, t.sport % 256,
  t.dst / 16777216, t.dst / 65536 % 256, t.dst / 256 % 256, t.dst % 256, t.dport % 65536 / 256, t.dport % 256]
def hashT (t : Tp) (seed : Int) : Int := hashL (bits .xor .u32 2166136261 seed) (bytesT t)
/-- what asks or answers. -/
def asksT (k : Int) : Bool := k == 0 || (k == 8 || (k == 13 || k == 14))
def ofP (p : Pk) : Tp × Int :=
  if p.mf = true ∨ p.off ≠ 0 then (tp0, 7)
  else if p.proto = 6 then (if (prsT p.src p.dst p.body).1 = 0 then (⟨p.proto, p.src, (prsT p.src p.dst p.body).2.sport, p.dst, (prsT p.src p.dst p.body).2.dport⟩, 0) else (tp0, (prsT p.src p.dst p.body).1))
  else if p.proto = 17 then (if (prsU p.src p.dst p.body).1 = 0 then (⟨p.proto, p.src, (prsU p.src p.dst p.body).2.sport, p.dst, (prsU p.src p.dst p.body).2.dport⟩, 0) else (tp0, (prsU p.src p.dst p.body).1))
  else if p.proto = 1 then (if (prsI p.body).1 = 0 then (if asksT (prsI p.body).2.type = true then (⟨p.proto, p.src, (prsI p.body).2.rest / 65536, p.dst, (prsI p.body).2.rest / 65536⟩, 0) else (tp0, 9)) else (tp0, (prsI p.body).1))
  else (tp0, 9)
/-- an echo's tuple. -/
theorem of_echo (k code rest src dst : Int) (hk : k = 8 ∨ k = 0) (c0 : 0 ≤ code) (c1 : code ≤ 255) (r0 : 0 ≤ rest) (r1 : rest ≤ 4294967295) :
    ofP ⟨0, 0, false, false, 0, 0, 1, src, dst, [], putI ⟨k, code, rest, []⟩⟩ = (⟨1, src, rest / 65536, dst, rest / 65536⟩, 0) := by
  have h : prsI (putI ⟨k, code, rest, []⟩) = (0, ⟨k, code, rest, []⟩) := prs_putI _ ((mayI_iff _).1 (by unfold mayI inB; dsimp only; rcases hk with rfl | rfl <;> simp <;> omega)) ⟨r0, r1⟩
  unfold ofP
  dsimp only
  rw [if_neg (by simp), if_neg (by decide), if_neg (by decide), if_pos rfl, h]
  dsimp only
  rw [if_pos rfl, if_pos (by rcases hk with rfl | rfl <;> rfl)]
end Go.Proofs.Ytmgkkgpdnopeaaa

/- Structs of many cells, by value: a load, a store into the block that was made last, as laws of the walk (cell by cell the kernel runs out of memory at nineteen). No condition. -/
namespace Go.Proofs.Ytmgkkgpdnopeaaa
open Go.ChangeShapes Go.WideShapes Go.ChangeAt Go.RowKit
set_option linter.unusedVariables false

section
variable {P : Program}
theorem run_loadVar_at (w : World) (ad : Addr) (ty : TypeId) (cs : List Value) (d : TypeDesc) (hc : ∀ j v, cs[j]? = some v → w.cell? (ad.add j) = some v)
    (hu : P.underlying ty = some d) (hd : d.isRow = true) (hi : (P.info? ty).map (·.size) = some cs.length) :
    (loadVar ty ad).run P w = .ok (.agg cs.toArray) w := by
  have hl : (loadCells ad cs.length).run P w = .ok cs.toArray w := run_loadCells_list (P := P) w ad cs hc
  cases hq : P.info? ty with
  | none => simp [hq] at hi
  | some i =>
    have hs : i.size = cs.length := by simpa [hq] using hi
    have hagg : (isAgg ty).run P w = .ok true w := by
      unfold isAgg
      rw [Sem.run_bind, run_underlying hu w]
      cases d <;> simp_all
    simp [loadVar, Sem.run_bind, hagg, sizeOf, typeInfo, hq, hs, hl]
theorem wpList_load_at {ops : Array Oper} {rest : List Oper} {op : Oper} {a : Act} {w : World} {Q : Exit → Act → World → Prop} (hgd : Region.wanted op (yielded ops a.tmps) = true) (ty : TypeId) (x : Operand) (ho : op.op = .load ty x)
    (ad : Addr) (hx : a.eval x = .pointer (some ad)) (cs : List Value) (d : TypeDesc) (hc : ∀ j v, cs[j]? = some v → w.cell? (ad.add j) = some v)
    (hu : P.underlying ty = some d) (hd : d.isRow = true) (hi : (P.info? ty).map (·.size) = some cs.length)
    (h : wpList P ops Q rest (a.put op.dst (.agg cs.toArray)) w) : wpList P ops Q (op :: rest) a w :=
  BigFrame.wpList_want hgd fun _ hK => by
    unfold Oper.wp execOp
    simp only [ho, hx, Instr.loadAt, Instr.sureAddr, Sem.run_bind, Sem.run_pure, Result.andThen_ok, run_loadVar_at w ad ty cs d hc hu hd hi]
    exact hK _ _ h
theorem yieldsIf_load_at {ops : Array Oper} {S : World → Prop} {op : Oper} {a : Act} (hw : Region.wanted op (yielded ops a.tmps) = true) (ty : TypeId) (x : Operand) (ho : op.op = .load ty x)
    (ad : Addr) (hx : a.eval x = .pointer (some ad)) (cs : List Value) (d : TypeDesc) (hS : ∀ w, S w → ∀ j v, cs[j]? = some v → w.cell? (ad.add j) = some v)
    (hu : P.underlying ty = some d) (hd : d.isRow = true) (hi : (P.info? ty).map (·.size) = some cs.length) : YieldsIf P ops S op (.agg cs.toArray) a :=
  .inl ⟨hw, fun w hw' => by
    unfold execOp
    simp only [ho, hx, Instr.loadAt, Instr.sureAddr, Sem.run_bind, Sem.run_pure, Result.andThen_ok, run_loadVar_at w ad ty cs d (hS w hw') hu hd hi]⟩
theorem wpList_store_new {ops : Array Oper} {rest : List Oper} {op : Oper} {a : Act} {w : World} {Q : Exit → Act → World → Prop} (hgd : Region.wanted op (yielded ops a.tmps) = true) (ty : TypeId) (x y : Operand) (ho : op.op = .store ty x y)
    (c c' : Array Value) (hx : a.eval x = .pointer (some ⟨w.heap.size, 0, none⟩)) (hy : a.eval y = .agg c')
    (hi : (P.info? ty).map (·.size) = some c'.size) (hs : c.size = c'.size) (h1 : c'.all (·.oneCell') = true)
    (h : wpList P ops Q rest (a.put op.dst undef) (w.alloc (.cells c' ty))) : wpList P ops Q (op :: rest) a (w.alloc (.cells c ty)) :=
  BigFrame.wpList_want hgd fun _ hK => by
    unfold Oper.wp execOp
    simp only [ho, hx, hy, Instr.storeAt, Instr.sureAddr, Sem.run_bind, Sem.run_pure, Result.andThen_ok, run_storeVar_new (P := P) w ty c c' hi hs h1]
    exact hK _ _ h
end
/-- a block of a struct's own, known whole. -/
def Bxo (w : World) (g : Nat) (ty : TypeId) (cs : List Value) : Prop := w.heap[g]? = some (.cells cs.toArray ty (0, 0))
/-- one block has turned, and nothing else. -/
structure Only (g : Nat) (w w' : World) : Prop where
  os : w'.os = w.os
  tape : w'.tape = w.tape
  output : w'.output = w.output
  size : w'.heap.size = w.heap.size
  block : ∀ k, k ≠ g → w'.heap[k]? = w.heap[k]?
section
variable {w w' w'' : World} {g g' B : Nat} {ty : TypeId} {cs : List Value}
theorem Bxo.lt (h : Bxo w g ty cs) : g < w.heap.size := (Array.getElem?_eq_some_iff.1 h).1
theorem Bxo.made (w : World) (ty : TypeId) (cs : List Value) : Bxo (w.alloc (.cells cs.toArray ty)) w.heap.size ty cs := heap_alloc_new w _
theorem Bxo.keep (h : Bxo w g ty cs) (hb : Below B w w') (hg : g < B) : Bxo w' g ty cs := (hb.block g hg).trans h
theorem Bxo.cell (h : Bxo w g ty cs) (j : Nat) {v : Value} (hj : cs[j]? = some v) : w.cell? ⟨g, j, none⟩ = some v := by
  rw [cell_of_row w g j _ ty _ h]; simpa using hj
theorem Bxo.at (h : Bxo w g ty cs) : ∀ j v, cs[j]? = some v → w.cell? ((⟨g, 0, none⟩ : Addr).add j) = some v := fun j v hj => by
  rw [Addr.add_mid, Nat.zero_add]; exact h.cell j hj
theorem Bxo.frozen (h : Bxo w g ty cs) (j : Nat) : w.frozen? ⟨g, j, none⟩ = false := frozen_of_row w g j _ ty h
theorem Bxo.drew (h : Bxo w g ty cs) : Bxo w.drew g ty cs := h
theorem Bxo.alloc (h : Bxo w g ty cs) (o : Obj) : Bxo (w.alloc o) g ty cs := (Below.heap_alloc w o g h.lt).trans h
theorem Bxo.set (h : Bxo w g ty cs) (j : Nat) (v : Value) : Bxo (w.setCell ⟨g, j, none⟩ v) g ty (cs.set j v) := by
  have := heap_setCell_same w g j cs.toArray ty v h
  rw [List.setIfInBounds_toArray] at this
  exact this
theorem Bxo.other (h : Bxo w g ty cs) {a : Addr} (ha : g ≠ a.block) (v : Value) : Bxo (w.setCell a v) g ty cs := (heap_setCell_other w a g v ha).trans h
theorem Bxo.only (h : Bxo w g ty cs) (ho : Only g' w w') (hg : g ≠ g') : Bxo w' g ty cs := (ho.block g hg).trans h
theorem Only.refl : Only g w w := ⟨rfl, rfl, rfl, rfl, fun _ _ => rfl⟩
theorem Only.trans (h : Only g w w') (h' : Only g w' w'') : Only g w w'' := ⟨h'.os.trans h.os, h'.tape.trans h.tape, h'.output.trans h.output, h'.size.trans h.size, fun k hk => (h'.block k hk).trans (h.block k hk)⟩
theorem Only.below (h : Only g w w') (hB : B ≤ g) : Below B w w' := ⟨h.os, h.tape, h.output, Nat.le_of_eq h.size.symm, fun k hk => h.block k (by omega)⟩
theorem Only.drew (h : Only g w w') : Only g w w'.drew := ⟨h.os, h.tape, h.output, h.size, h.block⟩
theorem Only.set (h : Only g w w') (j : Nat) (v : Value) : Only g w (w'.setCell ⟨g, j, none⟩ v) := ⟨h.os, h.tape, h.output, by rw [← h.size]; simp, fun k hk => (heap_setCell_other w' ⟨g, j, none⟩ k v hk).trans (h.block k hk)⟩
end
/-- cells from a place on, replaced. -/
def spl : List Value → Nat → List Value → List Value
  | cs, _, [] => cs
  | cs, o, v :: r => spl (cs.set o v) (o + 1) r
theorem spl_length : ∀ (vs : List Value) (cs : List Value) (o : Nat), (spl cs o vs).length = cs.length
  | [], _, _ => rfl
  | v :: r, cs, o => by rw [spl, spl_length r]; simp
theorem Bxo.setCells {g : Nat} {ty : TypeId} : ∀ (vs : List Value) (o : Nat) (cs : List Value) (w : World), Bxo w g ty cs → Bxo (w.setCells g o vs) g ty (spl cs o vs) ∧ Only g w (w.setCells g o vs)
  | [], _, _, _, h => ⟨h, Only.refl⟩
  | v :: r, o, cs, w, h => by
    have := Bxo.setCells r (o + 1) (cs.set o v) _ (h.set o v)
    exact ⟨this.1, (Only.refl.set o v).trans this.2⟩
section
variable {P : Program}
/-- the walk's load of a whole block; its store; a store of several cells in the middle. -/
theorem wpList_load_box {ops : Array Oper} {rest : List Oper} {op : Oper} {a : Act} {w : World} {Q : Exit → Act → World → Prop} (hgd : Region.wanted op (yielded ops a.tmps) = true) (ty : TypeId) (x : Operand) (ho : op.op = .load ty x)
    (g : Nat) (hx : a.eval x = .pointer (some ⟨g, 0, none⟩)) (cs : List Value) (d : TypeDesc) (hc : Bxo w g ty cs)
    (hu : P.underlying ty = some d) (hd : d.isRow = true) (hi : (P.info? ty).map (·.size) = some cs.length)
    (h : wpList P ops Q rest (a.put op.dst (.agg cs.toArray)) w) : wpList P ops Q (op :: rest) a w :=
  wpList_load_at hgd ty x ho _ hx cs d hc.at hu hd hi h
theorem run_storeVar_box (w : World) (g o : Nat) (ty sty : TypeId) (cs vs : List Value) (hc : Bxo w g ty cs) (hi : (P.info? sty).map (·.size) = some vs.length) (ho : o + vs.length ≤ cs.length) (h1 : vs.toArray.all (·.oneCell') = true) :
    (storeVar sty ⟨g, o, none⟩ (.agg vs.toArray)).run P w = .ok () (w.setCells g o vs) :=
  run_storeVar_mid w g o sty vs.toArray (fun j hj => ⟨by rw [hc.cell (o + j) (List.getElem?_eq_getElem (Nat.lt_of_lt_of_le (Nat.add_lt_add_left (show j < vs.length from by simpa using hj) o) ho))]; rfl, hc.frozen _⟩) (by simpa using hi) h1
theorem wpList_store_box {ops : Array Oper} {rest : List Oper} {op : Oper} {a : Act} {w : World} {Q : Exit → Act → World → Prop} (hgd : Region.wanted op (yielded ops a.tmps) = true) (sty : TypeId) (x y : Operand) (ho : op.op = .store sty x y)
    (g o : Nat) (ty : TypeId) (cs vs : List Value) (hx : a.eval x = .pointer (some ⟨g, o, none⟩)) (hy : a.eval y = .agg vs.toArray) (hc : Bxo w g ty cs)
    (hi : (P.info? sty).map (·.size) = some vs.length) (hs : o + vs.length ≤ cs.length) (h1 : vs.toArray.all (·.oneCell') = true)
    (h : ∀ w', Bxo w' g ty (spl cs o vs) → Only g w w' → wpList P ops Q rest (a.put op.dst undef) w') : wpList P ops Q (op :: rest) a w :=
  BigFrame.wpList_want hgd fun _ hK => by
    unfold Oper.wp execOp
    simp only [ho, hx, hy, Instr.storeAt, Instr.sureAddr, Sem.run_bind, Sem.run_pure, Result.andThen_ok, run_storeVar_box w g o ty sty cs vs hc hi hs h1]
    obtain ⟨h2, h3⟩ := Bxo.setCells vs o cs w hc
    exact hK _ _ (h _ h2 h3)
/-- .. of a region that draws: one step of it. -/
theorem step_store_box {op : Oper} {a : Act} {w : World} {K : Act → World → Prop} {Q : Exit → Act → World → Prop} (sty : TypeId) (x y : Operand) (ho : op.op = .store sty x y)
    (g o : Nat) (ty : TypeId) (cs vs : List Value) (hx : a.eval x = .pointer (some ⟨g, o, none⟩)) (hy : a.eval y = .agg vs.toArray) (hc : Bxo w g ty cs)
    (hi : (P.info? sty).map (·.size) = some vs.length) (hs : o + vs.length ≤ cs.length) (h1 : vs.toArray.all (·.oneCell') = true)
    (h : ∀ w', Bxo w' g ty (spl cs o vs) → Only g w w' → K (a.put op.dst undef) w') : op.wp P a w K Q := by
  unfold Oper.wp execOp
  simp only [ho, hx, hy, Instr.storeAt, Instr.sureAddr, Sem.run_bind, Sem.run_pure, Result.andThen_ok, run_storeVar_box w g o ty sty cs vs hc hi hs h1]
  obtain ⟨h2, h3⟩ := Bxo.setCells vs o cs w hc
  exact h _ h2 h3
end
theorem below_alloc {w0 w : World} {B : Nat} (h : Below B w0 w) (hB : B ≤ w.heap.size) (o : Obj) : Below B w0 (w.alloc o) := h.trans ((Below.refl _ _).alloc hB _)
end Go.Proofs.Ytmgkkgpdnopeaaa

/- Structs of many cells: stores of whatever value, as steps; loads out of the middle. No condition. -/
namespace Go.Proofs.Ytmgkkgpdnopeaaa
open Go.ChangeShapes Go.WideShapes Go.ChangeAt Go.RowKit
set_option linter.unusedVariables false

section
variable {P : Program}
theorem run_storeVar_any (w : World) (g o : Nat) (ty sty : TypeId) (cs vs : List Value) (v : Value) (hv : v.cells = vs.toArray) (hc : Bxo w g ty cs) (hi : (P.info? sty).map (·.size) = some vs.length) (ho : o + vs.length ≤ cs.length) (h1 : ∀ u ∈ vs, u.oneCell' = true) :
    (storeVar sty ⟨g, o, none⟩ v).run P w = .ok () (w.setCells g o vs) := by
  have := run_storeCells_cells (P := P) g o vs 0 w (fun j hj => by simp only [Nat.add_zero]; rw [hc.cell (o + j) (List.getElem?_eq_getElem (Nat.lt_of_lt_of_le (Nat.add_lt_add_left hj o) ho))]; rfl) (fun j hj => hc.frozen _) h1
  cases hq : P.info? sty with
  | none => simp [hq] at hi
  | some i =>
    have hs : vs.length = i.size := by simp [hq] at hi; omega
    simp only [Nat.add_zero] at this
    simp [storeVar, sizeOf, typeInfo, hq, hv, hs, this]
theorem wpList_store_any {ops : Array Oper} {rest : List Oper} {op : Oper} {a : Act} {w : World} {Q : Exit → Act → World → Prop} (hgd : Region.wanted op (yielded ops a.tmps) = true) (sty : TypeId) (x y : Operand) (ho : op.op = .store sty x y)
    (g o : Nat) (ty : TypeId) (cs vs : List Value) (v : Value) (hx : a.eval x = .pointer (some ⟨g, o, none⟩)) (hy : a.eval y = v) (hv : v.cells = vs.toArray) (hc : Bxo w g ty cs)
    (hi : (P.info? sty).map (·.size) = some vs.length) (hs : o + vs.length ≤ cs.length) (h1 : ∀ u ∈ vs, u.oneCell' = true)
    (h : ∀ w', Bxo w' g ty (spl cs o vs) → Only g w w' → wpList P ops Q rest (a.put op.dst undef) w') : wpList P ops Q (op :: rest) a w :=
  BigFrame.wpList_want hgd fun _ hK => by
    unfold Oper.wp execOp
    simp only [ho, hx, hy, Instr.storeAt, Instr.sureAddr, Sem.run_bind, Sem.run_pure, Result.andThen_ok, run_storeVar_any w g o ty sty cs vs v hv hc hi hs h1]
    obtain ⟨h2, h3⟩ := Bxo.setCells vs o cs w hc
    exact hK _ _ (h _ h2 h3)
theorem step_store_any {op : Oper} {a : Act} {w : World} {K : Act → World → Prop} {Q : Exit → Act → World → Prop} (sty : TypeId) (x y : Operand) (ho : op.op = .store sty x y)
    (g o : Nat) (ty : TypeId) (cs vs : List Value) (v : Value) (hx : a.eval x = .pointer (some ⟨g, o, none⟩)) (hy : a.eval y = v) (hv : v.cells = vs.toArray) (hc : Bxo w g ty cs)
    (hi : (P.info? sty).map (·.size) = some vs.length) (hs : o + vs.length ≤ cs.length) (h1 : ∀ u ∈ vs, u.oneCell' = true)
    (h : ∀ w', Bxo w' g ty (spl cs o vs) → Only g w w' → K (a.put op.dst undef) w') : op.wp P a w K Q := by
  unfold Oper.wp execOp
  simp only [ho, hx, hy, Instr.storeAt, Instr.sureAddr, Sem.run_bind, Sem.run_pure, Result.andThen_ok, run_storeVar_any w g o ty sty cs vs v hv hc hi hs h1]
  obtain ⟨h2, h3⟩ := Bxo.setCells vs o cs w hc
  exact h _ h2 h3
theorem Bxo.mid {w : World} {g : Nat} {ty : TypeId} {cs : List Value} (h : Bxo w g ty cs) (o : Nat) (vs : List Value) (hs : ∀ j v, vs[j]? = some v → cs[o + j]? = some v) : ∀ j v, vs[j]? = some v → w.cell? ((⟨g, o, none⟩ : Addr).add j) = some v := fun j v hj => by
  rw [Addr.add_mid]; exact h.cell _ (hs j v hj)
theorem sub_get {cs vs : List Value} {o : Nat} (h : (cs.drop o).take vs.length = vs) : ∀ j v, vs[j]? = some v → cs[o + j]? = some v := fun j v hj => by
  rw [← List.getElem?_drop]
  have hl := (List.getElem?_eq_some_iff.1 hj).1
  rw [← h, List.getElem?_take, if_pos hl] at hj
  exact hj
theorem step_load_at {op : Oper} {a : Act} {w : World} {K : Act → World → Prop} {Q : Exit → Act → World → Prop} (ty : TypeId) (x : Operand) (ho : op.op = .load ty x)
    (ad : Addr) (hx : a.eval x = .pointer (some ad)) (cs : List Value) (d : TypeDesc) (hc : ∀ j v, cs[j]? = some v → w.cell? (ad.add j) = some v)
    (hu : P.underlying ty = some d) (hd : d.isRow = true) (hi : (P.info? ty).map (·.size) = some cs.length)
    (h : K (a.put op.dst (.agg cs.toArray)) w) : op.wp P a w K Q := by
  unfold Oper.wp execOp
  simp only [ho, hx, Instr.loadAt, Instr.sureAddr, Sem.run_bind, Sem.run_pure, Result.andThen_ok, run_loadVar_at w ad ty cs d hc hu hd hi]
  exact h
end
theorem zero_of {P : Program} {ty : TypeId} {z : Value} (h : (P.info? ty).map (·.zero) = some (some z)) (w : World) : (zeroValue ty).run P w = .ok z w := by
  obtain ⟨i, hi, hz⟩ := Option.map_eq_some_iff.1 h
  simp [zeroValue, typeInfo, hi, hz]
theorem step_alloc {P : Program} {op : Oper} {a : Act} {w : World} {K : Act → World → Prop} {Q : Exit → Act → World → Prop} (ty : TypeId) (ho : op.op = .alloc ty) (z : List Value) (hz : (P.info? ty).map (·.zero) = some (some (.agg z.toArray)))
    (h : ∀ g w', (g ≤ w.heap.size ∧ w.heap.size ≤ g) → Bxo w' g ty z → Below w.heap.size w w' → (w'.heap.size ≤ w.heap.size + 1 ∧ w.heap.size + 1 ≤ w'.heap.size) → K (a.put op.dst (.pointer (some ⟨g, 0, none⟩))) w') : op.wp P a w K Q := by
  have hr : (Instr.alloc ty true (.tuple #[])).run P w = .ok (.pointer (some ⟨w.heap.size, 0, none⟩)) (w.alloc (.cells z.toArray ty)) := by
    simp [Instr.alloc, zero_of hz, newVar, newRow, Value.cells]
  unfold Oper.wp execOp
  simp only [ho, Sem.run_bind, Sem.run_pure, Result.andThen_ok, hr]
  exact h _ _ ⟨Nat.le_refl _, Nat.le_refl _⟩ (Bxo.made w ty z) ((Below.refl _ _).alloc (Nat.le_refl _) _) (by simp)
end Go.Proofs.Ytmgkkgpdnopeaaa

/- Tuples as values: their cells; two that are compared. -/
namespace Go.Proofs.Ytmgkkgpdnopeaaa
open Go.ChangeShapes Go.WideShapes Go.ChangeAt Go.RowKit
set_option linter.unusedVariables false
set_option linter.unusedSimpArgs false

abbrev tpL (t : Tp) : List Value := [.int .i64 t.proto, .int .u32 t.src, .int .i64 t.sport, .int .u32 t.dst, .int .i64 t.dport]
abbrev tpV (t : Tp) : Value := .agg #[.int .i64 t.proto, .int .u32 t.src, .int .i64 t.sport, .int .u32 t.dst, .int .i64 t.dport]
abbrev oTp (t : Tp) : Obj := .cells #[.int .i64 t.proto, .int .u32 t.src, .int .i64 t.sport, .int .u32 t.dst, .int .i64 t.dport] 27
theorem info_tp : (Try.prog.info? 27).map (·.size) = some 5 := by kernel_rfl
theorem tp_one (t : Tp) : ∀ u ∈ tpL t, u.oneCell' = true := by simp [Value.oneCell']
theorem eqInTpD (d : Nat) (m n : Tp) (w : World) : (Op.equalIn (d + 1 + 1) 27 (tpV m) (tpV n)).run Try.prog w = .ok (sameTp m n) w := by
  have hS : Try.prog.underlying 27 = some (.struct (Try.prog.fieldsOf 27)) := by kernel_rfl
  have hp : Try.prog.stoodInHeld 27 = false := by kernel_rfl
  have u3 := Try.underlying3
  have u4 := Try.underlying22
  have a3 := Try.isAgg3
  have z3 := Try.sizeOf3
  have a4 := Try.isAgg22
  have z4 := Try.sizeOf22
  rw [run_equalIn_agg w (d + 1) 27 _ _ hS hp]
  simp only [Program.fieldsOf, Try.underlying27]
  obtain ⟨m1, m2, m3, m4, m5⟩ := m
  obtain ⟨n1, n2, n3, n4, n5⟩ := n
  unfold sameTp
  go_simp
  by_cases h1 : m1 = n1 <;> by_cases h2 : m2 = n2 <;> by_cases h3 : m3 = n3 <;> by_cases h4 : m4 = n4 <;> by_cases h5 : m5 = n5 <;> simp [h1, h2, h3, h4, h5]
theorem eqInTp (m n : Tp) (w : World) : (Op.equalIn 10000 27 (tpV m) (tpV n)).run Try.prog w = .ok (sameTp m n) w := eqInTpD 9998 m n w
theorem eqTp (m n : Tp) (w : World) : (binOp .eql 27 (tpV m) (tpV n)).run Try.prog w = .ok (.bool (sameTp m n)) w := by
  rw [run_eql_struct, eqInTp]; rfl
theorem neTp (m n : Tp) (w : World) : (binOp .neq 27 (tpV m) (tpV n)).run Try.prog w = .ok (.bool (!sameTp m n)) w := by
  rw [run_neq_struct, eqInTp]; rfl
end Go.Proofs.Ytmgkkgpdnopeaaa

/- A tuple's bytes, number by number; names that are another by a byte: plain mathematics. -/
namespace Go.Proofs.Ytmgkkgpdnopeaaa
open Go.RowKit
set_option linter.unusedVariables false

/-- the last s bytes of a number, the highest first. -/
def beB (n : Int) (s : Nat) : List Int := (List.range s).map (fun j => n / 256 ^ (s - 1 - j) % 256)
theorem beB_zero (n : Int) : beB n 0 = [] := rfl
theorem beB_succ (n : Int) (s : Nat) : beB n (s + 1) = (n / 256 ^ s % 256) :: beB n s := by
  unfold beB
  rw [List.range_succ_eq_map, List.map_cons, List.map_map]
  congr 1
  refine List.map_congr_left fun j hj => ?_
  simp only [Function.comp, Nat.succ_eq_add_one]
  rw [show s + 1 - 1 - (j + 1) = s - 1 - j by omega]
def bytesN : List Int → List Nat → List Int
  | n :: ns, s :: ss => beB n s ++ bytesN ns ss
  | _, _ => []
abbrev sizesT : List Nat := [1, 4, 2, 4, 2]
theorem bytesN_drop (ns : List Int) (ss : List Nat) (k : Nat) (h1 : k < ns.length) (h2 : k < ss.length) : bytesN (ns.drop k) (ss.drop k) = beB ns[k] ss[k] ++ bytesN (ns.drop (k + 1)) (ss.drop (k + 1)) := by
  rw [List.drop_eq_getElem_cons h1, List.drop_eq_getElem_cons h2, bytesN]
theorem bytes_nums (t : Tp) (h : RngTp t) : bytesN (numsT t) sizesT = bytesT t := by
  have s0 := h.s0
  have s1 := h.s1
  have d0 := h.d0
  have d1 := h.d1
  simp only [numsT, sizesT, bytesN, beB_succ, beB_zero, bytesT, List.cons_append, List.nil_append, List.append_nil]
  simp
  omega
theorem hashL_cons (h c : Int) (l : List Int) : hashL h (c :: l) = hashL (hashS h c) l := rfl
theorem nums_rng (t : Tp) (h : RngTp t) (k : Nat) (hk : k < (numsT t).length) : 0 ≤ (numsT t)[k] ∧ (numsT t)[k] ≤ 4294967295 := by
  have s0 := h.s0
  have s1 := h.s1
  have d0 := h.d0
  have d1 := h.d1
  match k, hk with
  | 0, _ => show 0 ≤ t.proto % 256 ∧ t.proto % 256 ≤ _; omega
  | 1, _ => exact ⟨s0, s1⟩
  | 2, _ => show 0 ≤ t.sport % 65536 ∧ t.sport % 65536 ≤ _; omega
  | 3, _ => exact ⟨d0, d1⟩
  | 4, _ => show 0 ≤ t.dport % 65536 ∧ t.dport % 65536 ≤ _; omega
  | m + 5, h => exact absurd h (by simp [numsT])
theorem sizes_rng (k : Nat) (hk : k < sizesT.length) : 1 ≤ sizesT[k] ∧ sizesT[k] ≤ 4 := by
  match k, hk with
  | 0, _ => show 1 ≤ (1 : Nat) ∧ (1 : Nat) ≤ 4; omega
  | 1, _ => show 1 ≤ (4 : Nat) ∧ (4 : Nat) ≤ 4; omega
  | 2, _ => show 1 ≤ (2 : Nat) ∧ (2 : Nat) ≤ 4; omega
  | 3, _ => show 1 ≤ (4 : Nat) ∧ (4 : Nat) ≤ 4; omega
  | 4, _ => show 1 ≤ (2 : Nat) ∧ (2 : Nat) ≤ 4; omega
  | m + 5, h => exact absurd h (by simp)
theorem div_pow_succ (n : Int) (j : Nat) (h : 0 ≤ n) : n / 256 ^ (j + 1) = n / 256 ^ j / 256 := by
  rw [Int.pow_succ, Int.ediv_ediv_of_nonneg (Int.pow_nonneg (by decide))]
theorem div_pow_rng (n : Int) (j : Nat) (h0 : 0 ≤ n) (h1 : n ≤ 4294967295) : 0 ≤ n / 256 ^ j ∧ n / 256 ^ j ≤ 4294967295 :=
  ⟨Int.ediv_nonneg h0 (Int.pow_nonneg (by decide)), Int.le_trans (Int.ediv_le_self _ h0) h1⟩
end Go.Proofs.Ytmgkkgpdnopeaaa

/- A packet's cells. -/
namespace Go.Proofs.Ytmgkkgpdnopeaaa
open Go.ChangeShapes Go.WideShapes Go.ChangeAt Go.RowKit
set_option linter.unusedVariables false

abbrev pkL (x : Pk) (Ao : Option Addr) (co : Nat) (Ab : Option Addr) (cb : Nat) : List Value :=
  [.int .i64 x.tos, .int .i64 x.id, .bool x.df, .bool x.mf, .int .i64 x.off, .int .i64 x.ttl, .int .i64 x.proto, .int .u32 x.src, .int .u32 x.dst, .slice Ao x.opts.length co, .slice Ab x.body.length cb]
theorem info_pk : (Try.prog.info? 25).map (·.size) = some 11 := by kernel_rfl
theorem pk_one (x : Pk) (Ao : Option Addr) (co : Nat) (Ab : Option Addr) (cb : Nat) : (pkL x Ao co Ab cb).toArray.all (·.oneCell') = true := all_oneCell_toArray (by simp [Value.oneCell'])
abbrev oPk (x : Pk) (Ao : Option Addr) (co : Nat) (Ab : Option Addr) (cb : Nat) : Obj := .cells #[.int .i64 x.tos, .int .i64 x.id, .bool x.df, .bool x.mf, .int .i64 x.off, .int .i64 x.ttl, .int .i64 x.proto, .int .u32 x.src, .int .u32 x.dst, .slice Ao x.opts.length co, .slice Ab x.body.length cb] 25
end Go.Proofs.Ytmgkkgpdnopeaaa

/- A packet among a law's arguments. -/
namespace Go.Proofs.Ytmgkkgpdnopeaaa
open Go.ChangeShapes Go.WideShapes Go.ChangeAt Go.RowKit
set_option linter.unusedVariables false

/-- a packet that came in. -/
structure PkIn (w : World) (p : Pk) (Ao : Option Addr) (co : Nat) (Ab : Option Addr) (cb : Nat) : Prop where
  rng : Rng p
  olen : p.opts.length ≤ co
  ocap : co ≤ 9223372036854775807
  onil : Ao = none → co = 0
  obs : Bs w w.heap.size Ao p.opts
  blen : p.body.length ≤ cb
  bcap : cb ≤ 9223372036854775807
  bnil : Ab = none → cb = 0
  bbs : Bs w w.heap.size Ab p.body
end Go.Proofs.Ytmgkkgpdnopeaaa
