/- Lemmas, several texts in one. -/
import Derived.Test.YtmgkkgpdnopeaaaQ02
import Derived.Test.YtmgkkgpdnopeaaaQ01
/- A datagram and a segment that were put: their tuples, also with another address: plain mathematics. -/
namespace Go.Proofs.Ytmgkkgpdnopeaaa
open Go.RowKit
set_option linter.unusedVariables false

theorem sum_src (p src src' dst e : Int) (l : List UInt8) (hs : 0 ≤ src) (hd : 0 ≤ dst) (hs' : 0 ≤ src') (h1 : src' / 65536 = src / 65536) (h2 : src' % 65536 = src % 65536 + e) (h3 : e ≠ 0) (h4 : -255 ≤ e) (h5 : e ≤ 255) (hp : 0 ≤ p) (ht : sumT p src dst l = 65535) : sumT p src' dst l ≠ 65535 := by
  have t0 := tot_lo l
  have p0 := pseudo_lo src dst p (((l).length : Nat) : Int)
  have p1 := pseudo_lo src' dst p (((l).length : Nat) : Int)
  unfold sumT at ht ⊢
  rw [fo_fo' _ _ p0 t0] at ht
  rw [fo_fo' _ _ p1 t0]
  unfold pseudo at ht ⊢
  have z0 : 0 ≤ (((l).length : Nat) : Int) % 65536 := by omega
  have q0 : 0 ≤ p % 65536 := by omega
  generalize (((l).length : Nat) : Int) % 65536 = z at *
  generalize p % 65536 = q at *
  generalize tot l = T at *
  rw [fo_fo _ _ (by omega) t0] at ht
  rw [fo_fo _ _ (by omega) t0]
  rw [fo_top] at ht
  intro hf
  rw [fo_top] at hf
  omega
theorem bits_xor_u32_nat (a b : Nat) (ha : a < 4294967296) (hb : b < 4294967296) : bits .xor .u32 (a : Int) (b : Int) = ((a ^^^ b : Nat) : Int) := by
  have hx : a ^^^ b < 2 ^ 32 := Nat.xor_lt_two_pow (by omega) (by omega)
  have h1 : (BitVec.ofInt 32 (a : Int)).toNat = a := by
    rw [BitVec.ofInt_natCast, BitVec.toNat_ofNat]; exact Nat.mod_eq_of_lt (by omega)
  have h2 : (BitVec.ofInt 32 (b : Int)).toNat = b := by
    rw [BitVec.ofInt_natCast, BitVec.toNat_ofNat]; exact Nat.mod_eq_of_lt (by omega)
  show IntKind.u32.wrap ((BitVec.ofInt 32 (a : Int) ^^^ BitVec.ofInt 32 (b : Int)).toNat : Int) = _
  rw [BitVec.toNat_xor, h1, h2]
  exact IntWalk.u32_in _ (by omega)
/-- a byte into a number: only its last byte turns, and it turns unless the byte is 0. -/
theorem xor_byte (s x : Int) (s0 : 0 ≤ s) (s1 : s ≤ 4294967295) (x0 : 0 ≤ x) (x1 : x ≤ 255) : 0 ≤ bits .xor .u32 s x ∧ bits .xor .u32 s x ≤ 4294967295 ∧ bits .xor .u32 s x / 256 = s / 256 ∧ (bits .xor .u32 s x = s ↔ x = 0) := by
  obtain ⟨a, rfl⟩ : ∃ a : Nat, s = (a : Int) := ⟨s.toNat, by omega⟩
  obtain ⟨b, rfl⟩ : ∃ b : Nat, x = (b : Int) := ⟨x.toNat, by omega⟩
  rw [bits_xor_u32_nat a b (by omega) (by omega)]
  have hx : a ^^^ b < 2 ^ 32 := Nat.xor_lt_two_pow (by omega) (by omega)
  have hd : (a ^^^ b) / 256 = a / 256 := by
    have h := Nat.xor_div_two_pow (a := a) (b := b) (n := 8)
    rw [show (2 : Nat) ^ 8 = 256 from rfl] at h
    rw [h, Nat.div_eq_of_lt (show b < 256 by omega), Nat.xor_zero]
  refine ⟨by omega, by omega, by omega, ?_⟩
  constructor
  · intro h
    have h' : a ^^^ b = a := by omega
    have : a ^^^ (a ^^^ b) = a ^^^ a := by rw [h']
    rw [← Nat.xor_assoc, Nat.xor_self, Nat.zero_xor] at this
    omega
  · intro h
    have : b = 0 := by omega
    rw [this, Nat.xor_zero]
/-- a datagram's tuple. -/
theorem of_udp (src dst from_ to_ : Int) (f0 : 0 ≤ from_) (f1 : from_ ≤ 65535) (t0 : 0 ≤ to_) (t1 : to_ ≤ 65535) :
    ofP ⟨0, 0, false, false, 0, 0, 17, src, dst, [], putU src dst ⟨from_, to_, false, []⟩⟩ = (⟨17, src, from_, dst, to_⟩, 0) := by
  have h := prs_putU src dst ⟨from_, to_, false, []⟩ [] ⟨f0, f1, t0, t1, by simp⟩
  rw [List.append_nil] at h
  unfold ofP
  dsimp only
  rw [if_neg (by simp), if_neg (by decide), if_pos rfl, h]
  dsimp only
  rw [if_pos rfl]
theorem of_udp_other (src src' dst from_ to_ e : Int) (f0 : 0 ≤ from_) (f1 : from_ ≤ 65535) (t0 : 0 ≤ to_) (t1 : to_ ≤ 65535) (hs : 0 ≤ src) (hd : 0 ≤ dst) (hs' : 0 ≤ src') (h1 : src' / 65536 = src / 65536) (h2 : src' % 65536 = src % 65536 + e) (h3 : e ≠ 0) (h4 : -255 ≤ e) (h5 : e ≤ 255) :
    (ofP ⟨0, 0, false, false, 0, 0, 17, src', dst, [], putU src dst ⟨from_, to_, false, []⟩⟩).2 ≠ 0 := by
  have M : MayU ⟨from_, to_, false, []⟩ := ⟨f0, f1, t0, t1, by simp⟩
  have hl := putU_length src dst ⟨from_, to_, false, []⟩
  obtain ⟨g0, g2, g4, g6⟩ := ud_bytes ⟨from_, to_, false, []⟩ (chkU src dst ⟨from_, to_, false, []⟩) [] M (chkU_lo _ _ _) (chkU_hi _ _ _)
  rw [List.append_nil] at g4 g6
  have e4 : wd (putU src dst ⟨from_, to_, false, []⟩) 4 = 8 := g4
  have e6 : wd (putU src dst ⟨from_, to_, false, []⟩) 6 = chkU src dst ⟨from_, to_, false, []⟩ := g6
  have hz : chkU src dst ⟨from_, to_, false, []⟩ ≠ 0 := fun h => by have := (chkU_zero src dst _).1 h; cases this
  have hc := chkU_lo src dst ⟨from_, to_, false, []⟩
  have hn := sum_src 17 src src' dst e _ hs hd hs' h1 h2 h3 h4 h5 (by decide) (sum_putU src dst ⟨from_, to_, false, []⟩ rfl)
  have hl8 : (putU src dst ⟨from_, to_, false, []⟩).length = 8 := hl
  have h : prsU src' dst (putU src dst ⟨from_, to_, false, []⟩) = (5, Ud.empty) := by
    unfold prsU
    rw [hl8, e4, e6, if_neg (by omega), if_neg (by omega), if_pos ⟨by omega, by rw [List.take_of_length_le (by rw [hl8]; decide)]; exact hn⟩]
  unfold ofP
  dsimp only
  rw [if_neg (by simp), if_neg (by decide), if_pos rfl, h]
  dsimp only
  rw [if_neg (by decide)]
  decide
/-- a segment's tuple. -/
theorem syn_may (from_ to_ : Int) (f0 : 0 ≤ from_) (f1 : from_ ≤ 65535) (t0 : 0 ≤ to_) (t1 : to_ ≤ 65535) : MayT ⟨from_, to_, 0, 0, 2, 0, 0, [], []⟩ :=
  ⟨f0, f1, t0, t1, (by dsimp only; decide), (by dsimp only; decide), (by dsimp only; decide), (by dsimp only; decide), (by dsimp only; decide), (by dsimp only; decide), (by dsimp only; decide), (by dsimp only; decide)⟩
theorem of_tcp (src dst from_ to_ : Int) (f0 : 0 ≤ from_) (f1 : from_ ≤ 65535) (t0 : 0 ≤ to_) (t1 : to_ ≤ 65535) :
    ofP ⟨0, 0, false, false, 0, 0, 6, src, dst, [], putT src dst ⟨from_, to_, 0, 0, 2, 0, 0, [], []⟩⟩ = (⟨6, src, from_, dst, to_⟩, 0) := by
  have h := prs_putT src dst ⟨from_, to_, 0, 0, 2, 0, 0, [], []⟩ (syn_may from_ to_ f0 f1 t0 t1) (by dsimp only; decide) (by dsimp only; decide)
  unfold ofP
  dsimp only
  rw [if_neg (by simp), if_pos rfl, h]
  dsimp only
  rw [if_pos rfl]
theorem of_tcp_other (src src' dst from_ to_ e : Int) (hs : 0 ≤ src) (hd : 0 ≤ dst) (hs' : 0 ≤ src') (h1 : src' / 65536 = src / 65536) (h2 : src' % 65536 = src % 65536 + e) (h3 : e ≠ 0) (h4 : -255 ≤ e) (h5 : e ≤ 255) :
    (ofP ⟨0, 0, false, false, 0, 0, 6, src', dst, [], putT src dst ⟨from_, to_, 0, 0, 2, 0, 0, [], []⟩⟩).2 ≠ 0 := by
  have hn := sum_src 6 src src' dst e _ hs hd hs' h1 h2 h3 h4 h5 (by decide) (sum_put src dst ⟨from_, to_, 0, 0, 2, 0, 0, [], []⟩)
  have h := prsT_sum src' dst _ hn
  unfold ofP
  dsimp only
  rw [if_neg (by simp), if_pos rfl]
  rw [if_neg h]
  exact h
end Go.Proofs.Ytmgkkgpdnopeaaa
