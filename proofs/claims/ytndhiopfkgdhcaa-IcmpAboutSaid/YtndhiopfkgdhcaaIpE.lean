/- A packet is read from its bytes as it was put, and what is read is put as it was: plain mathematics. -/
import Derived.Test.YtndhiopfkgdhcaaIpA6
namespace Go.Proofs.Ytndhiopfkgdhcaa
open Go.RowKit
set_option linter.unusedVariables false

theorem b8i (n : Int) (h0 : 0 ≤ n) (h1 : n ≤ 255) : ((b8 n).toNat : Int) = n := b8_is n h0 h1
theorem g8_cons0 (a : UInt8) (r : List UInt8) : g8 (a :: r) 0 = (a.toNat : Int) := rfl
theorem g8_cons (a : UInt8) (r : List UInt8) (k : Nat) : g8 (a :: r) (k + 1) = g8 r k := rfl

theorem hd_set (p : Pk) (c : Int) : ((hd p 0).set 10 (b8 (c / 256))).set (10 + 1) (b8 (c % 256)) = hd p c := by
  unfold hd hd20
  simp only [List.set_cons_succ, List.set_cons_zero, Nat.reduceAdd, List.cons_append, List.nil_append]
theorem hd_sum (p : Pk) : fo (tot (hd p (chk p))) = 65535 := by
  have h := stand_words (hd p 0) (hd p 0) 5 (by rw [hd_length]; omega) (by
    unfold hd hd20
    simp only [List.set_cons_succ, List.set_cons_zero, List.cons_append, List.nil_append]
    rfl)
  have e : (2 * 5 : Nat) = 10 := rfl
  rw [e] at h
  have h2 : 65535 - fo (tot (hd p 0)) = chk p := rfl
  rw [h2, hd_set] at h
  exact h

structure Rng (p : Pk) : Prop where
  s0 : 0 ≤ p.src
  s1 : p.src ≤ 4294967295
  d0 : 0 ≤ p.dst
  d1 : p.dst ≤ 4294967295

theorem flg_parts (p : Pk) (h : May p) : decide (flg p / 16384 % 2 = 1) = p.df ∧ decide (flg p / 8192 % 2 = 1) = p.mf ∧ flg p % 8192 * 8 = p.off ∧ flg p < 32768 ∧ 0 ≤ flg p := by
  have h0 := h.o0
  have h1 := h.o1
  have h8 := h.o8
  unfold flg
  cases p.df <;> cases p.mf <;> simp <;> omega

theorem put_bytes (p : Pk) (c : Int) (R : List UInt8) (h : May p) (hr : Rng p) (c0 : 0 ≤ c) (c1 : c ≤ 65535) :
    g8 (hd p c ++ R) 0 = 64 + hln p / 4 ∧ g8 (hd p c ++ R) 1 = p.tos ∧ wd (hd p c ++ R) 2 = whl p ∧ wd (hd p c ++ R) 4 = p.id ∧ wd (hd p c ++ R) 6 = flg p ∧ g8 (hd p c ++ R) 8 = p.ttl ∧ g8 (hd p c ++ R) 9 = p.proto ∧ ad4 (hd p c ++ R) 12 = p.src ∧ ad4 (hd p c ++ R) 16 = p.dst := by
  obtain ⟨t0, t1, l0, l1, r0, r1, d0, d1, f0, f1, f8, p40, p4, fit, mf⟩ := h
  obtain ⟨s0, s1, e0, e1⟩ := hr
  have w0 : 0 ≤ whl p := by unfold whl hln; omega
  have w1 : whl p ≤ 65535 := by unfold whl hln; omega
  have q0 := (by unfold flg; split <;> split <;> omega : 0 ≤ flg p)
  have q1 := (by unfold flg; split <;> split <;> omega : flg p ≤ 65535)
  have n0 : 0 ≤ 64 + hln p / 4 := by unfold hln; omega
  have n1 : 64 + hln p / 4 ≤ 255 := by unfold hln; omega
  have e : hd p c ++ R = b8 (64 + hln p / 4) :: b8 p.tos :: b8 (whl p / 256) :: b8 (whl p % 256) :: b8 (p.id / 256) :: b8 (p.id % 256) :: b8 (flg p / 256) :: b8 (flg p % 256) :: b8 p.ttl :: b8 p.proto :: b8 (c / 256) :: b8 (c % 256) ::
    b8 (p.src / 16777216) :: b8 (p.src / 65536 % 256) :: b8 (p.src / 256 % 256) :: b8 (p.src % 256) :: b8 (p.dst / 16777216) :: b8 (p.dst / 65536 % 256) :: b8 (p.dst / 256 % 256) :: b8 (p.dst % 256) :: (p.opts ++ R) := by
    unfold hd hd20; simp
  rw [e]
  unfold ad4 wd
  simp only [Nat.reduceAdd]
  refine ⟨?_, ?_, ?_, ?_, ?_, ?_, ?_, ?_, ?_⟩ <;> simp only [show ∀ (a : UInt8) (r : List UInt8), g8 (a :: r) 0 = (a.toNat : Int) from fun _ _ => rfl, show ∀ (a : UInt8) (r : List UInt8) (k : Nat), g8 (a :: r) (k + 1) = g8 r k from fun _ _ _ => rfl]
  · exact b8i _ n0 n1
  · exact b8i _ t0 t1
  · rw [b8i _ (by omega) (by omega), b8i _ (by omega) (by omega)]; omega
  · rw [b8i _ (by omega) (by omega), b8i _ (by omega) (by omega)]; omega
  · rw [b8i _ (by omega) (by omega), b8i _ (by omega) (by omega)]; omega
  · exact b8i _ l0 l1
  · exact b8i _ r0 r1
  · rw [b8i _ (by omega) (by omega), b8i _ (by omega) (by omega), b8i _ (by omega) (by omega), b8i _ (by omega) (by omega)]; omega
  · rw [b8i _ (by omega) (by omega), b8i _ (by omega) (by omega), b8i _ (by omega) (by omega), b8i _ (by omega) (by omega)]; omega

theorem hd_take (p : Pk) (c : Int) (R : List UInt8) : (hd p c ++ R).take (hln p).toNat = hd p c := by
  have e : (hln p).toNat = (hd p c).length := by rw [hd_length]; unfold hln; omega
  rw [e, List.take_left]
/-- what is put is read as it was, whatever stands behind it. -/
theorem prs_put (p : Pk) (R : List UInt8) (h : May p) (hr : Rng p) : prs (putB p ++ R) = (0, p) := by
  obtain ⟨g0, g1, g2, g4, g6, g8', g9, g12, g16⟩ := put_bytes p (chk p) (p.body ++ R) h hr (chk_lo p) (chk_hi p)
  have el : putB p ++ R = hd p (chk p) ++ (p.body ++ R) := by unfold putB; rw [List.append_assoc]
  rw [el]
  have hl : ((hd p (chk p) ++ (p.body ++ R)).length : Int) = whl p + R.length := by rw [List.length_append, List.length_append, hd_length]; unfold whl hln; omega
  have hh : hln p = 20 + (p.opts.length : Int) := rfl
  have hw : whl p = hln p + (p.body.length : Int) := rfl
  have p4 := h.p4
  have p40 := h.p40
  obtain ⟨d1, d2, d3, d4, d5⟩ := flg_parts p h
  have hn : headN (hd p (chk p) ++ (p.body ++ R)) = hln p := by unfold headN; rw [g0]; omega
  have hfit : fitsB p = true := by rw [fitsB_iff]; exact ⟨h.fit, h.mf⟩
  have e1 : ((hd p (chk p)).drop 20) = p.opts := by
    unfold hd
    rw [List.drop_append_of_le_length (by simp [hd20])]
    simp [hd20]
  have e2 : ((hd p (chk p) ++ (p.body ++ R)).take (whl p).toNat).drop (hln p).toNat = p.body := by
    have a : (hln p).toNat = (hd p (chk p)).length := by rw [hd_length]; omega
    have b : (whl p).toNat = (hd p (chk p)).length + p.body.length := by rw [hd_length]; omega
    rw [b, List.take_length_add_append, a, List.drop_left]
    simp
  unfold prs
  rw [if_neg (by omega), if_neg (by rw [g0, hn]; omega), if_neg (by rw [g2, hn]; omega), if_neg (by rw [hn, hd_take, hd_sum]; simp)]
  dsimp only
  rw [g1, g2, g4, g6, g8', g9, g12, g16, hn, hd_take, d1, d2, d3, e1, e2]
  rw [if_neg]
  intro hc
  rcases hc with hc | hc
  · omega
  · have : fitsB ⟨p.tos, p.id, p.df, p.mf, p.off, p.ttl, p.proto, p.src, p.dst, p.opts, p.body⟩ = fitsB p := rfl
    rw [this, hfit] at hc
    cases hc

theorem prs_code (l : List UInt8) (h : (prs l).1 = 0) : measE l = 0 ∧ fo (tot (l.take (headN l).toNat)) = 65535 ∧ wd l 6 < 32768 ∧ (prs l).2 = rdP (l.take (headN l).toNat) ((l.take (wd l 2).toNat).drop (headN l).toNat) := by
  by_cases hM : measE l = 0
  · rw [prs_ok l hM] at h ⊢
    by_cases hS : fo (tot (l.take (headN l).toNat)) = 65535
    · rw [if_neg (by simpa using hS)] at h ⊢
      by_cases hf : 32768 ≤ wd l 6 ∨ fitsB (rdP (l.take (headN l).toNat) ((l.take (wd l 2).toNat).drop (headN l).toNat)) = false
      · rw [if_pos hf] at h; cases h
      · rw [if_neg hf]
        exact ⟨hM, hS, by omega, rfl⟩
    · rw [if_pos hS] at h; cases h
  · rw [prs_meas l hM] at h; exact absurd h hM
theorem prs_empty (l : List UInt8) (h : (prs l).1 ≠ 0) : (prs l).2 = Pk.empty := by
  by_cases hM : measE l = 0
  · rw [prs_ok l hM] at h ⊢
    split
    · rfl
    · rename_i h1
      rw [if_neg h1] at h
      split
      · rfl
      · rename_i h2
        rw [if_neg h2] at h
        exact absurd rfl h
  · rw [prs_meas l hM]
/-- one byte of a head that is another is seen. -/
theorem spoilt (p : Pk) (h : May p) (hr : Rng p) (i : Nat) (b : UInt8) (hi : i < 20 + p.opts.length) (hb : b ≠ (putB p)[i]'(by rw [putB_length]; omega)) :
    ((prs ((putB p).set i b)).1 ≠ 0 ∨ (i = 0 ∧ (prs ((putB p).set i b)).2.opts.length ≠ p.opts.length)) := by
  by_cases hc : (prs ((putB p).set i b)).1 = 0
  · right
    obtain ⟨hM, hS, _, hP⟩ := prs_code _ hc
    have hlen : ((putB p).set i b).length = 20 + p.opts.length + p.body.length := by rw [List.length_set, putB_length]
    have hk : headN ((putB p).set i b) ≠ hln p := by
      intro hk
      rw [hk] at hS
      have e : ((putB p).set i b).take (hln p).toNat = (hd p (chk p)).set i b := by
        have a : (hln p).toNat = (hd p (chk p)).length := by rw [hd_length]; unfold hln; omega
        unfold putB
        rw [List.set_append_left _ _ (by rw [hd_length]; omega), a]
        have : (hd p (chk p)).length = ((hd p (chk p)).set i b).length := by simp
        rw [this, List.take_left]
      rw [e] at hS
      have hx : (putB p)[i]'(by rw [putB_length]; omega) = (hd p (chk p))[i]'(by rw [hd_length]; omega) := by
        simp only [putB]
        rw [List.getElem_append_left]
      rw [hx] at hb
      exact seen (hd p (chk p)) i b (by rw [hd_length]; omega) hb (hd_sum p) hS
    obtain ⟨m1, m2, m3, m4, m5⟩ := meas_ok _ hM
    have h0 : i = 0 := by
      by_cases h0 : i = 0
      · exact h0
      · exfalso
        apply hk
        have g : g8 ((putB p).set i b) 0 = g8 (putB p) 0 := by
          rw [g8_at _ 0 (by omega), g8_at _ 0 (by rw [putB_length]; omega), List.getElem_set_ne h0]
        unfold headN
        rw [g]
        have := (put_bytes p (chk p) p.body h hr (chk_lo p) (chk_hi p)).1
        have e : putB p = hd p (chk p) ++ p.body := rfl
        rw [e, this]
        have := h.p4
        have := h.p40
        unfold hln; omega
    refine ⟨h0, ?_⟩
    rw [hP]
    show ((((putB p).set i b).take (headN ((putB p).set i b)).toNat).drop 20).length ≠ _
    rw [List.length_drop, List.length_take]
    unfold hln at hk
    omega
  · exact .inl hc

theorem b8_g8 (l : List UInt8) (k : Nat) (h : k < l.length) : b8 (g8 l k) = l[k] := by
  rw [g8_at l k h]
  apply UInt8.toNat_inj.1
  have := b8_is (l[k].toNat : Int) (by omega) (by have := l[k].toNat_lt; omega)
  omega
theorem wd_hi8 (l : List UInt8) (k : Nat) : wd l k / 256 = g8 l k := by have := g8_lo l (k + 1); have := g8_hi l (k + 1); unfold wd; omega
theorem wd_lo8 (l : List UInt8) (k : Nat) : wd l k % 256 = g8 l (k + 1) := by have := g8_lo l (k + 1); have := g8_hi l (k + 1); unfold wd; omega
theorem flg_rd (l b : List UInt8) (h0 : 0 ≤ wd l 6) (h : wd l 6 < 32768) : flg (rdP l b) = wd l 6 := by
  unfold flg
  rw [show (rdP l b).off = wd l 6 % 8192 * 8 from rfl, show (rdP l b).mf = decide (wd l 6 / 8192 % 2 = 1) from rfl, show (rdP l b).df = decide (wd l 6 / 16384 % 2 = 1) from rfl]
  by_cases h1 : wd l 6 / 8192 % 2 = 1 <;> by_cases h2 : wd l 6 / 16384 % 2 = 1 <;> simp [h1, h2] <;> omega
/-- what is read is put as it was, but for the check sum. -/
theorem put_prs (l : List UInt8) (h : (prs l).1 = 0) : (putB (prs l).2).length ≤ l.length ∧ (putB (prs l).2).take 10 = l.take 10 ∧ (putB (prs l).2).drop 12 = (l.take (putB (prs l).2).length).drop 12 ∧ 20 ≤ (putB (prs l).2).length := by
  obtain ⟨hM, hS, h6, hP⟩ := prs_code l h
  obtain ⟨m1, m2, m3, m4, m5⟩ := meas_ok l hM
  obtain ⟨k, hk⟩ : ∃ k : Nat, (k : Int) = headN l := ⟨(headN l).toNat, by omega⟩
  obtain ⟨q, hq⟩ : ∃ q : Nat, (q : Int) = wd l 2 := ⟨(wd l 2).toNat, by omega⟩
  have ek : (headN l).toNat = k := by omega
  have eq : (wd l 2).toNat = q := by omega
  rw [ek, eq] at hP
  have h16 : g8 l 0 / 16 = 4 := by
    unfold measE at hM
    rw [if_neg (by omega)] at hM
    by_cases h : g8 l 0 / 16 ≠ 4 ∨ headN l < 20 ∨ (l.length : Int) < headN l
    · rw [if_pos h] at hM; cases hM
    · omega
  have t : ∀ i, i < 20 → g8 (l.take k) i = g8 l i := by
    intro i hi
    rw [g8_at _ i (by rw [List.length_take]; omega), g8_at l i (by omega), List.getElem_take]
  have tw : ∀ i, i < 19 → wd (l.take k) i = wd l i := by
    intro i hi
    unfold wd; rw [t i (by omega), t (i + 1) (by omega)]
  rw [hP]
  have hf := flg_rd (l.take k) ((l.take q).drop k) (wd_lo _ _) (by rw [tw 6 (by omega)]; exact h6)
  have ho : (rdP (l.take k) ((l.take q).drop k)).opts.length = k - 20 := by show ((l.take k).drop 20).length = _; rw [List.length_drop, List.length_take]; omega
  have hb : (rdP (l.take k) ((l.take q).drop k)).body.length = q - k := by show ((l.take q).drop k).length = _; rw [List.length_drop, List.length_take]; omega
  have hlen : (putB (rdP (l.take k) ((l.take q).drop k))).length = q := by rw [putB_length, ho, hb]; omega
  have h1 : 64 + hln (rdP (l.take k) ((l.take q).drop k)) / 4 = g8 l 0 := by
    have b0 := g8_lo l 0
    have hh : headN l = g8 l 0 % 16 * 4 := rfl
    unfold hln; rw [ho]; omega
  have h2 : whl (rdP (l.take k) ((l.take q).drop k)) = wd l 2 := by unfold whl hln; rw [ho, hb]; omega
  have hE : putB (rdP (l.take k) ((l.take q).drop k)) = [l[0]'(by omega), l[1]'(by omega), l[2]'(by omega), l[3]'(by omega), l[4]'(by omega), l[5]'(by omega), l[6]'(by omega), l[7]'(by omega), l[8]'(by omega), l[9]'(by omega), b8 (chk (rdP (l.take k) ((l.take q).drop k)) / 256), b8 (chk (rdP (l.take k) ((l.take q).drop k)) % 256), l[12]'(by omega), l[13]'(by omega), l[14]'(by omega), l[15]'(by omega), l[16]'(by omega), l[17]'(by omega), l[18]'(by omega), l[19]'(by omega)] ++ (l.take q).drop 20 := by
    have hs : (rdP (l.take k) ((l.take q).drop k)).src = wd l 12 * 65536 + wd l 14 := by show ad4 (l.take k) 12 = _; unfold ad4; rw [tw 12 (by omega), tw (12 + 2) (by omega)]
    have hd_ : (rdP (l.take k) ((l.take q).drop k)).dst = wd l 16 * 65536 + wd l 18 := by show ad4 (l.take k) 16 = _; unfold ad4; rw [tw 16 (by omega), tw (16 + 2) (by omega)]
    have b12 := wd_lo l 12
    have b12' := wd_hi l 12
    have b14 := wd_lo l 14
    have b14' := wd_hi l 14
    have b16 := wd_lo l 16
    have b16' := wd_hi l 16
    have b18 := wd_lo l 18
    have b18' := wd_hi l 18
    have tail : (rdP (l.take k) ((l.take q).drop k)).opts ++ (rdP (l.take k) ((l.take q).drop k)).body = (l.take q).drop 20 := by
      show (l.take k).drop 20 ++ (l.take q).drop k = _
      have e : l.take k = (l.take q).take k := by rw [List.take_take, Nat.min_eq_left (by omega)]
      have e2 : (l.take q).drop k = ((l.take q).drop 20).drop (k - 20) := by rw [List.drop_drop]; congr 1; omega
      rw [e, List.drop_take, e2, List.take_append_drop]
    unfold putB hd
    rw [List.append_assoc, tail]
    congr 1
    unfold hd20
    rw [h1, h2, hf, tw 6 (by omega), hs, hd_, wd_hi8, wd_lo8, wd_hi8, wd_lo8, b8_g8 l 0 (by omega), b8_g8 l 2 (by omega), b8_g8 l (2 + 1) (by omega), b8_g8 l 6 (by omega), b8_g8 l (6 + 1) (by omega)]
    rw [show (rdP (l.take k) ((l.take q).drop k)).tos = g8 (l.take k) 1 from rfl, show (rdP (l.take k) ((l.take q).drop k)).id = wd (l.take k) 4 from rfl, show (rdP (l.take k) ((l.take q).drop k)).ttl = g8 (l.take k) 8 from rfl, show (rdP (l.take k) ((l.take q).drop k)).proto = g8 (l.take k) 9 from rfl]
    rw [t 1 (by omega), tw 4 (by omega), t 8 (by omega), t 9 (by omega), wd_hi8, wd_lo8, b8_g8 l 1 (by omega), b8_g8 l 4 (by omega), b8_g8 l (4 + 1) (by omega), b8_g8 l 8 (by omega), b8_g8 l 9 (by omega)]
    rw [show (wd l 12 * 65536 + wd l 14) / 16777216 = wd l 12 / 256 from by omega, show (wd l 12 * 65536 + wd l 14) / 65536 % 256 = wd l 12 % 256 from by omega, show (wd l 12 * 65536 + wd l 14) / 256 % 256 = wd l 14 / 256 from by omega, show (wd l 12 * 65536 + wd l 14) % 256 = wd l 14 % 256 from by omega]
    rw [show (wd l 16 * 65536 + wd l 18) / 16777216 = wd l 16 / 256 from by omega, show (wd l 16 * 65536 + wd l 18) / 65536 % 256 = wd l 16 % 256 from by omega, show (wd l 16 * 65536 + wd l 18) / 256 % 256 = wd l 18 / 256 from by omega, show (wd l 16 * 65536 + wd l 18) % 256 = wd l 18 % 256 from by omega]
    rw [wd_hi8, wd_lo8, wd_hi8, wd_lo8, wd_hi8, wd_lo8, wd_hi8, wd_lo8, b8_g8 l 12 (by omega), b8_g8 l (12 + 1) (by omega), b8_g8 l 14 (by omega), b8_g8 l (14 + 1) (by omega), b8_g8 l 16 (by omega), b8_g8 l (16 + 1) (by omega), b8_g8 l 18 (by omega), b8_g8 l (18 + 1) (by omega)]
  have hL : l.take q = [l[0]'(by omega), l[1]'(by omega), l[2]'(by omega), l[3]'(by omega), l[4]'(by omega), l[5]'(by omega), l[6]'(by omega), l[7]'(by omega), l[8]'(by omega), l[9]'(by omega), l[10]'(by omega), l[11]'(by omega), l[12]'(by omega), l[13]'(by omega), l[14]'(by omega), l[15]'(by omega), l[16]'(by omega), l[17]'(by omega), l[18]'(by omega), l[19]'(by omega)] ++ (l.take q).drop 20 := by
    have e := (List.take_append_drop 20 (l.take q)).symm
    rw [List.take_take, Nat.min_eq_left (by omega)] at e
    rw [e]
    congr 1
    · apply List.ext_getElem
      · simp; omega
      · intro i h1 h2
        rw [List.getElem_take]
        have hi : i < 20 := by simpa using h2
        match i, hi with
        | 0, _ => rfl
        | 1, _ => rfl
        | 2, _ => rfl
        | 3, _ => rfl
        | 4, _ => rfl
        | 5, _ => rfl
        | 6, _ => rfl
        | 7, _ => rfl
        | 8, _ => rfl
        | 9, _ => rfl
        | 10, _ => rfl
        | 11, _ => rfl
        | 12, _ => rfl
        | 13, _ => rfl
        | 14, _ => rfl
        | 15, _ => rfl
        | 16, _ => rfl
        | 17, _ => rfl
        | 18, _ => rfl
        | 19, _ => rfl
        | n + 20, h => exact absurd h (by omega)
    · rw [← e]
  refine ⟨by rw [hlen]; omega, ?_, ?_, by rw [hlen]; omega⟩
  · have e : l.take 10 = (l.take q).take 10 := by rw [List.take_take, Nat.min_eq_left (by omega)]
    rw [e, hE, hL]
    rfl
  · rw [hlen, hE, hL]
    rfl
end Go.Proofs.Ytndhiopfkgdhcaa
