/- The total of words of which one is another; bytes that all are 0; one byte that is another. Plain mathematics. -/
import Derived.Test.YtacohanlpgkdeaaPlain
namespace Go.Proofs.Ytacohanlpgkdeaa
open Go.RowKit

theorem tot_set : ∀ (k : Nat) (l : List UInt8) (a b : UInt8) (h : 2 * k + 1 < l.length),
    tot ((l.set (2 * k) a).set (2 * k + 1) b) = tot l - (256 * (l[2 * k].toNat : Int) + (l[2 * k + 1].toNat : Int)) + (256 * (a.toNat : Int) + (b.toNat : Int))
  | 0, x :: y :: r, a, b, h => by simp [tot]; omega
  | k + 1, x :: y :: r, a, b, h => by
    have ih := tot_set k r a b (by simp at h; omega)
    have e : 2 * (k + 1) = 2 * k + 1 + 1 := by omega
    simp only [e, List.set_cons_succ, List.getElem_cons_succ, tot, ih]
    omega
  | 0, [], a, b, h => by simp at h
  | 0, [x], a, b, h => by simp at h
  | k + 1, [], a, b, h => by simp at h
  | k + 1, [x], a, b, h => by simp at h

def allz (l : List UInt8) : Bool := l.all (· == 0)
theorem allz_tot : ∀ l : List UInt8, allz l = true → tot l = 0
  | [], _ => rfl
  | [a], h => by simp [allz] at h; subst h; rfl
  | a :: b :: r, h => by
    simp only [allz, List.all_cons, Bool.and_eq_true, beq_iff_eq] at h
    obtain ⟨rfl, rfl, h⟩ := h
    have := allz_tot r h
    simp only [tot, this]; rfl
theorem tot_allz : ∀ l : List UInt8, allz l = false → 0 < tot l
  | [], h => by simp [allz] at h
  | [a], h => by
    simp [allz] at h
    have : a.toNat ≠ 0 := fun e => h (UInt8.toNat_inj.1 (by simpa using e))
    simp only [tot]; omega
  | a :: b :: r, h => by
    have hr := tot_lo r
    by_cases ha : a = 0
    · by_cases hb : b = 0
      · subst ha hb
        have := tot_allz r (by simpa [allz] using h)
        simp only [tot]; simp; omega
      · have : b.toNat ≠ 0 := fun e => hb (UInt8.toNat_inj.1 (by simpa using e))
        simp only [tot]; omega
    · have : a.toNat ≠ 0 := fun e => ha (UInt8.toNat_inj.1 (by simpa using e))
      simp only [tot]; omega
theorem allz_snoc (l : List UInt8) (j : Nat) (h : j < l.length) : allz (l.take (j + 1)) = (allz (l.take j) && (l[j] == 0)) := by
  unfold allz
  rw [List.take_succ_eq_append_getElem h, List.all_append]; simp

theorem byte_zero (b : UInt8) : ((b.toNat : Int) == 0) = (b == 0) := by
  by_cases h : b = 0
  · subst h; rfl
  · have : ¬ ((b.toNat : Int) = 0) := fun e => h (UInt8.toNat_inj.1 (by simpa using e))
    rw [beq_eq_false_iff_ne.2 h, beq_eq_false_iff_ne.2 this]
theorem tot_word : ∀ (l : List UInt8) (k : Nat) (h : 2 * k + 1 < l.length) (x y : Int) (_ : (l[2 * k].toNat : Int) = x) (_ : (l[2 * k + 1].toNat : Int) = y), 256 * x + y ≤ tot l := by
  intro l k h x y hx hy
  have := tot_set k l 0 0 h
  have h2 := tot_lo ((l.set (2 * k) 0).set (2 * k + 1) 0)
  rw [hx, hy] at this
  simp at this
  omega

/-- mended, it is that of the changed words, where these are not all 0. -/
theorem mend_fits (T o n : Int) (T0 : 0 ≤ T - o) (o0 : 0 ≤ o) (o1 : o ≤ 65535) (n0 : 0 ≤ n) (h : 0 < T - o + n) : mend (65535 - fo T) o n = 65535 - fo (T - o + n) := by
  unfold mend
  rw [show 65535 - (65535 - fo T) + (65535 - o) = fo T + (65535 - o) from by omega, fo_fo T (65535 - o) (by omega) (by omega), fo_fo (T + (65535 - o)) n (by omega) n0]
  congr 1
  unfold fo; split <;> split <;> omega

def b8 (n : Int) : UInt8 := UInt8.ofNat n.toNat
theorem b8_is (n : Int) (h0 : 0 ≤ n) (h1 : n ≤ 255) : ((b8 n).toNat : Int) = n := by
  unfold b8
  rw [UInt8.toNat_ofNat_of_lt' (by show _ < 256; omega)]; omega

theorem fo_top (n : Int) : fo n = 65535 ↔ 0 < n ∧ n % 65535 = 0 := by unfold fo; split <;> omega
/-- with their own check sum among them words have the sum 65535. -/
theorem stands (T : Int) (h : 0 ≤ T) : fo (T + (65535 - fo T)) = 65535 := by
  rw [fo_top]; unfold fo; split <;> omega
theorem tot_one : ∀ (l : List UInt8) (i : Nat) (b : UInt8) (h : i < l.length), ∃ m : Int, (m = 1 ∨ m = 256) ∧ tot (l.set i b) = tot l + m * ((b.toNat : Int) - (l[i].toNat : Int))
  | [], _, _, h => by simp at h
  | [a], 0, b, _ => ⟨256, .inr rfl, by simp only [List.set_cons_zero, List.getElem_cons_zero, tot]; omega⟩
  | [a], i + 1, b, h => by simp at h
  | a :: c :: r, 0, b, _ => ⟨256, .inr rfl, by simp only [List.set_cons_zero, List.getElem_cons_zero, tot]; omega⟩
  | a :: c :: r, 1, b, _ => ⟨1, .inl rfl, by simp only [List.set_cons_zero, List.set_cons_succ, List.getElem_cons_zero, List.getElem_cons_succ, tot]; omega⟩
  | a :: c :: r, i + 2, b, h => by
    obtain ⟨m, hm, e⟩ := tot_one r i b (by simpa using h)
    exact ⟨m, hm, by simp only [List.set_cons_succ, List.getElem_cons_succ, tot, e]; omega⟩
/-- one byte that is another is seen. -/
theorem seen (l : List UInt8) (i : Nat) (b : UInt8) (h : i < l.length) (hb : b ≠ l[i]) (ht : fo (tot l) = 65535) : fo (tot (l.set i b)) ≠ 65535 := by
  obtain ⟨m, hm, e⟩ := tot_one l i b h
  have h1 : b.toNat ≠ l[i].toNat := fun e => hb (UInt8.toNat_inj.1 e)
  have h2 := b.toNat_lt
  have h3 := l[i].toNat_lt
  intro hf
  rw [fo_top] at ht hf
  rw [e] at hf
  rcases hm with rfl | rfl <;> omega
theorem xor_walk (a : UInt8) (x : Int) (h0 : 0 ≤ x) (h1 : x ≤ 255) : bits .xor .u8 (a.toNat : Int) x = ((a ^^^ b8 x).toNat : Int) := by
  have ha := a.toNat_lt
  rw [u8_xor _ x (by omega) (by omega) h0 (by omega), UInt8.toNat_xor]
  have := b8_is x h0 h1
  rw [Int.toNat_natCast, show x.toNat = (b8 x).toNat from by omega]
theorem xor_other (a : UInt8) (x : Int) (h0 : x ≠ 0) (h1 : 0 ≤ x) (h2 : x ≤ 255) : a ^^^ b8 x ≠ a := by
  intro h
  have : b8 x = 0 := by
    have h' : a ^^^ (a ^^^ b8 x) = a ^^^ a := by rw [h]
    simpa [← UInt8.xor_assoc] using h'
  have e := b8_is x h1 h2
  rw [this] at e
  simp at e
  omega

theorem stand_words (L l1 : List UInt8) (k : Nat) (h : 2 * k + 1 < L.length) (e : l1 = (L.set (2 * k) 0).set (2 * k + 1) 0) :
    fo (tot ((l1.set (2 * k) (b8 ((65535 - fo (tot l1)) / 256))).set (2 * k + 1) (b8 ((65535 - fo (tot l1)) % 256)))) = 65535 := by
  have hl : 2 * k + 1 < l1.length := by rw [e]; simpa using h
  have f1 := fo_lo (tot l1)
  have f2 := fo_hi (tot l1)
  have hz1 : l1[2 * k] = 0 := by subst e; rw [List.getElem_set_ne (by omega), List.getElem_set_self]
  have hz2 : l1[2 * k + 1] = 0 := by subst e; rw [List.getElem_set_self]
  rw [tot_set k l1 _ _ hl, hz1, hz2, b8_is _ (by omega) (by omega), b8_is _ (by omega) (by omega)]
  have := stands (tot l1) (tot_lo l1)
  rw [← this]
  congr 1
  simp; omega
end Go.Proofs.Ytacohanlpgkdeaa
