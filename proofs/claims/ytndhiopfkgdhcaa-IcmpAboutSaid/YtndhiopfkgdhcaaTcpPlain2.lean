/- Segments of which one byte is another, or one of whose addresses is: plain mathematics. -/
import Derived.Test.YtndhiopfkgdhcaaTcpPlain
namespace Go.Proofs.Ytndhiopfkgdhcaa
open Go.RowKit
set_option linter.unusedVariables false

theorem sum_one (p src dst : Int) (l : List UInt8) (i : Nat) (b : UInt8) (h : i < l.length) (hb : b ≠ l[i]) (ht : sumT p src dst l = 65535) : sumT p src dst (l.set i b) ≠ 65535 := by
  obtain ⟨m, hm, e⟩ := tot_one l i b h
  have h1 : b.toNat ≠ l[i].toNat := fun e => hb (UInt8.toNat_inj.1 e)
  have h2 := b.toNat_lt
  have h3 := l[i].toNat_lt
  have p0 := pseudo_lo src dst p ((l.length : Nat) : Int)
  have t0 := tot_lo l
  have t1 := tot_lo (l.set i b)
  unfold sumT at ht ⊢
  rw [List.length_set]
  rw [fo_fo' _ _ p0 t0] at ht
  rw [fo_fo' _ _ p0 t1]
  generalize pseudo src dst p ((l.length : Nat) : Int) = P at *
  intro hf
  rw [fo_top] at ht hf
  rw [e] at hf
  rcases hm with rfl | rfl <;> omega
theorem prsT_sum (src dst : Int) (l : List UInt8) (h : sumT 6 src dst l ≠ 65535) : (prsT src dst l).1 ≠ 0 := by
  unfold prsT
  intro hc
  split at hc
  · cases hc
  · split at hc
    · cases hc
    · split at hc
      · cases hc
      · simp at hc
theorem prsT_five (src dst : Int) (l : List UInt8) (h : sumT 6 src dst l ≠ 65535) (h1 : l.length ≤ 65535) (h2 : 20 ≤ l.length) (h3 : 20 ≤ tsz l) (h4 : tsz l ≤ l.length) : (prsT src dst l).1 = 5 := by
  unfold prsT
  rw [if_neg (by omega), if_neg (by omega), if_neg (by omega), if_pos h]
/-- one byte of a segment that is another is seen. -/
theorem spoiltT (src dst : Int) (t : Tc) (i : Nat) (b : UInt8) (hi : i < thl t.opts + t.body.length) (hb : b ≠ (putT src dst t)[i]'(by rw [putT_length]; omega)) : (prsT src dst ((putT src dst t).set i b)).1 ≠ 0 :=
  prsT_sum _ _ _ (sum_one 6 src dst _ i b (by rw [putT_length]; omega) hb (sum_put src dst t))
/-- an address that is another by one byte is seen. -/
theorem spoiltA (src src' dst e : Int) (t : Tc) (hm : MayT t) (hq : 0 ≤ t.seq ∧ t.seq ≤ 4294967295) (ha : 0 ≤ t.ack ∧ t.ack ≤ 4294967295) (hs : 0 ≤ src) (hd : 0 ≤ dst) (hs' : 0 ≤ src') (h1 : src' / 65536 = src / 65536) (h2 : src' % 65536 = src % 65536 + 256 * e) (h3 : e ≠ 0) (h4 : -255 ≤ e) (h5 : e ≤ 255) :
    (prsT src' dst (putT src dst t)).1 = 5 := by
  have hl := putT_length src dst t
  have fit := hm.fit
  have h20 : 20 ≤ thl t.opts := by unfold thl; omega
  have g12 := (seg_bytes t (chkT src dst t) hm hq ha).2.2.2.2.1
  have hx : tsz (putT src dst t) = (thl t.opts : Int) := g12
  refine prsT_five src' dst _ ?_ (by omega) (by omega) (by rw [hx]; omega) (by rw [hx]; omega)
  have ht := sum_put src dst t
  have t0 := tot_lo (putT src dst t)
  have p0 := pseudo_lo src dst 6 (((putT src dst t).length : Nat) : Int)
  have p1 := pseudo_lo src' dst 6 (((putT src dst t).length : Nat) : Int)
  unfold sumT at ht ⊢
  rw [fo_fo' _ _ p0 t0] at ht
  rw [fo_fo' _ _ p1 t0]
  unfold pseudo at ht ⊢
  have z0 : 0 ≤ (((putT src dst t).length : Nat) : Int) % 65536 := by omega
  generalize (((putT src dst t).length : Nat) : Int) % 65536 = z at *
  generalize tot (putT src dst t) = T at *
  rw [fo_fo _ _ (by omega) t0] at ht
  rw [fo_fo _ _ (by omega) t0]
  rw [fo_top] at ht
  intro hf
  rw [fo_top] at hf
  omega
end Go.Proofs.Ytndhiopfkgdhcaa
