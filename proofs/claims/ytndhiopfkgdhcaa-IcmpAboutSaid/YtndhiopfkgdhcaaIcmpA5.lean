/- Contracts of package icmp: the lengths of a head, is a packet an error's, a copy; a head that stands alone. -/
import Derived.Test.YtndhiopfkgdhcaaIcmpA4
import Derived.Test.YtndhiopfkgdhcaaIpE
import Derived.Test.YtndhiopfkgdhcaaIpB5
import Derived.Lib.SliceRun
namespace Go.Proofs.Ytndhiopfkgdhcaa
open Go.ChangeShapes Go.WideShapes Go.ChangeAt Go.RowKit
set_option linter.unusedVariables false
set_option linter.unusedSimpArgs false

/-- what is told of a head that stands there as a whole, and of a packet that needn't. -/
def imE (l : List UInt8) : Int :=
  if l.length < 20 then 2
  else if g8 l 0 / 16 ≠ 4 ∨ headN l < 20 ∨ (l.length : Int) < headN l then 3
  else if wd l 2 < headN l then 4
  else 0
theorem imE_ok {l : List UInt8} (h : imE l = 0) : 20 ≤ l.length ∧ 20 ≤ headN l ∧ headN l ≤ l.length ∧ headN l ≤ wd l 2 ∧ g8 l 0 / 16 = 4 := by
  unfold imE at h
  split at h
  · cases h
  · split at h
    · cases h
    · split at h
      · cases h
      · omega

set_option maxRecDepth 100000 in
set_option maxHeartbeats 1000000 in
theorem imeasure (A : Option Addr) (n c : Nat) (l : List UInt8) (B : Nat) (w : World) (hn : l.length = n) (h : Bs w B A l) (hn2 : n ≤ 16777216) (hnc : n ≤ c) :
    Calls Try.prog 41 #[.slice A n c] w fun e w' => e = .returned (.tuple #[.int .i64 (if imE l = 0 then headN l else 0), .int .i64 (if imE l = 0 then wd l 2 else 0), .int .i64 (imE l)]) ∧ ∃ m, w' = w.drewN m := by
  by_cases h20 : n < 20
  · have e : imE l = 2 := by unfold imE; rw [if_pos (by omega)]
    rw [e]
    clear e hn h
    go_enter Try.func41, Try.ntmps41
    go_wp2
    go_ret3
    exact ⟨rfl, 0, rfl⟩
  obtain ⟨ad, rfl, hlt, hcell⟩ := g8_cells h (by omega)
  have hc0 : w.cell? ad = some (.int .u8 (g8 l 0)) := by have := hcell 0 (by omega); rwa [add_zero] at this
  clear hcell
  have b0 := g8_lo l 0
  have b1 := g8_hi l 0
  have a0 := wd_lo l 2
  have a1 := wd_hi l 2
  have hm := u8_mask4 (g8 l 0) b0 b1
  have i0 : 0 < n := by omega
  by_cases h3 : g8 l 0 / 16 ≠ 4 ∨ headN l < 20 ∨ (n : Int) < headN l
  · have e : imE l = 3 := by unfold imE; rw [if_neg (by omega), if_pos (by rw [hn]; exact h3)]
    rw [e]
    clear e hn h
    unfold headN at h3
    generalize g8 l 0 = x at *
    by_cases h4 : x / 16 = 4
    · have t1 : (x / 16 != 4) = false := by simpa using h4
      by_cases h5 : x % 16 * 4 < 20
      · clear h3 h4
        go_enter Try.func41, Try.ntmps41
        go_wp2
        go_ret3
        exact ⟨rfl, 0, rfl⟩
      · have h6 : (n : Int) < x % 16 * 4 := by omega
        clear h3 h4
        go_enter Try.func41, Try.ntmps41
        go_wp2
        go_ret3
        exact ⟨rfl, 0, rfl⟩
    · have t1 : (x / 16 != 4) = true := by simpa using h4
      clear h3 h4
      go_enter Try.func41, Try.ntmps41
      go_wp2
      go_ret3
      exact ⟨rfl, 0, rfl⟩
  have hh : ¬ (headN l < 20) ∧ ¬ ((n : Int) < headN l) ∧ g8 l 0 / 16 = 4 := by omega
  obtain ⟨g1, g2, g3⟩ := hh
  have t1 : (g8 l 0 / 16 != 4) = false := by simpa using g3
  have HN := Go.Lib.hid hn
  have HB := Go.Lib.hid h
  have HH : Hid (headN l = g8 l 0 % 16 * 4) := Go.Lib.hid rfl
  by_cases h4 : wd l 2 < headN l
  · have e : imE l = 4 := by unfold imE; rw [if_neg (by omega), if_neg (by rw [hn]; exact h3), if_pos h4]
    rw [e]
    rw [HH.out] at g1 g2 h4
    clear e h3 hn h
    go_enter Try.func41, Try.ntmps41
    go_wp2_with (go_at_call 38; refine (iword (some ad) n c l B _ HN.out HB.out 2 _ rfl (by omega) hn2).mono ?_; rintro e w' ⟨rfl, m, rfl⟩)
    go_ret3
    exact ⟨rfl, _, rfl⟩
  · have e : imE l = 0 := by unfold imE; rw [if_neg (by omega), if_neg (by rw [hn]; exact h3), if_neg h4]
    rw [e]
    rw [HH.out] at g1 g2 h4
    clear e h3 hn h
    go_enter Try.func41, Try.ntmps41
    go_wp2_with (go_at_call 38; refine (iword (some ad) n c l B _ HN.out HB.out 2 _ rfl (by omega) hn2).mono ?_; rintro e w' ⟨rfl, m, rfl⟩)
    go_ret3
    exact ⟨rfl, _, rfl⟩

/-- a packet of a head alone: no body, no piece. -/
def aloneP (l : List UInt8) : Pk := ⟨g8 l 1, wd l 4, false, false, 0, g8 l 8, g8 l 9, ad4 l 12, ad4 l 16, l.drop 20, []⟩
theorem b8_eq (n : Int) (a : UInt8) (h : n = (a.toNat : Int)) : b8 n = a := by
  subst h
  apply UInt8.toNat_inj.1
  have := b8_is (a.toNat : Int) (by omega) (by have := a.toNat_lt; omega)
  omega
theorem s1 : ∀ (n : Nat) (h : List UInt8), n + 1 ≤ h.length → ∃ (a : UInt8) (r : List UInt8), h = a :: r ∧ n ≤ r.length
  | _, [], h => by simp at h
  | _, a :: r, h => ⟨a, r, rfl, by simpa using h⟩
theorem alone_hd (h : List UInt8) (n : Nat) (hn : h.length = n) (hl : 20 ≤ h.length) (h4 : n % 4 = 0) (h0 : g8 h 0 = 64 + (n : Int) / 4) :
    (((((h.set 2 (b8 ((n : Int) / 256))).set (2 + 1) (b8 ((n : Int) % 256))).set 6 (b8 (0 / 256))).set (6 + 1) (b8 (0 % 256))).set 10 (b8 (0 / 256))).set (10 + 1) (b8 (0 % 256)) = hd (aloneP h) 0 := by
  obtain ⟨a0, h, rfl, l0⟩ := s1 19 h hl
  obtain ⟨a1, h, rfl, l1⟩ := s1 18 h l0
  obtain ⟨a2, h, rfl, l2⟩ := s1 17 h l1
  obtain ⟨a3, h, rfl, l3⟩ := s1 16 h l2
  obtain ⟨a4, h, rfl, l4⟩ := s1 15 h l3
  obtain ⟨a5, h, rfl, l5⟩ := s1 14 h l4
  obtain ⟨a6, h, rfl, l6⟩ := s1 13 h l5
  obtain ⟨a7, h, rfl, l7⟩ := s1 12 h l6
  obtain ⟨a8, h, rfl, l8⟩ := s1 11 h l7
  obtain ⟨a9, h, rfl, l9⟩ := s1 10 h l8
  obtain ⟨a10, h, rfl, l10⟩ := s1 9 h l9
  obtain ⟨a11, h, rfl, l11⟩ := s1 8 h l10
  obtain ⟨a12, h, rfl, l12⟩ := s1 7 h l11
  obtain ⟨a13, h, rfl, l13⟩ := s1 6 h l12
  obtain ⟨a14, h, rfl, l14⟩ := s1 5 h l13
  obtain ⟨a15, h, rfl, l15⟩ := s1 4 h l14
  obtain ⟨a16, h, rfl, l16⟩ := s1 3 h l15
  obtain ⟨a17, h, rfl, l17⟩ := s1 2 h l16
  obtain ⟨a18, h, rfl, l18⟩ := s1 1 h l17
  obtain ⟨a19, h, rfl, l19⟩ := s1 0 h l18
  have q0 := a0.toNat_lt
  have q1 := a1.toNat_lt
  have q2 := a2.toNat_lt
  have q3 := a3.toNat_lt
  have q4 := a4.toNat_lt
  have q5 := a5.toNat_lt
  have q6 := a6.toNat_lt
  have q7 := a7.toNat_lt
  have q8 := a8.toNat_lt
  have q9 := a9.toNat_lt
  have q10 := a10.toNat_lt
  have q11 := a11.toNat_lt
  have q12 := a12.toNat_lt
  have q13 := a13.toNat_lt
  have q14 := a14.toNat_lt
  have q15 := a15.toNat_lt
  have q16 := a16.toNat_lt
  have q17 := a17.toNat_lt
  have q18 := a18.toNat_lt
  have q19 := a19.toNat_lt
  have hn' : (n : Int) = 20 + (h.length : Int) := by simp at hn; omega
  have h0' : (a0.toNat : Int) = 64 + (n : Int) / 4 := h0
  have hw : hd (aloneP (a0 :: a1 :: a2 :: a3 :: a4 :: a5 :: a6 :: a7 :: a8 :: a9 :: a10 :: a11 :: a12 :: a13 :: a14 :: a15 :: a16 :: a17 :: a18 :: a19 :: h)) 0 = [b8 (64 + (20 + (h.length : Int)) / 4), b8 (a1.toNat : Int), b8 ((20 + (h.length : Int) + 0) / 256), b8 ((20 + (h.length : Int) + 0) % 256), b8 (((a4.toNat : Int) * 256 + (a5.toNat : Int)) / 256), b8 (((a4.toNat : Int) * 256 + (a5.toNat : Int)) % 256), b8 (0 / 256), b8 (0 % 256), b8 (a8.toNat : Int), b8 (a9.toNat : Int), b8 (0 / 256), b8 (0 % 256), b8 ((((a12.toNat : Int) * 256 + (a13.toNat : Int)) * 65536 + ((a14.toNat : Int) * 256 + (a15.toNat : Int))) / 16777216), b8 ((((a12.toNat : Int) * 256 + (a13.toNat : Int)) * 65536 + ((a14.toNat : Int) * 256 + (a15.toNat : Int))) / 65536 % 256), b8 ((((a12.toNat : Int) * 256 + (a13.toNat : Int)) * 65536 + ((a14.toNat : Int) * 256 + (a15.toNat : Int))) / 256 % 256), b8 ((((a12.toNat : Int) * 256 + (a13.toNat : Int)) * 65536 + ((a14.toNat : Int) * 256 + (a15.toNat : Int))) % 256), b8 ((((a16.toNat : Int) * 256 + (a17.toNat : Int)) * 65536 + ((a18.toNat : Int) * 256 + (a19.toNat : Int))) / 16777216), b8 ((((a16.toNat : Int) * 256 + (a17.toNat : Int)) * 65536 + ((a18.toNat : Int) * 256 + (a19.toNat : Int))) / 65536 % 256), b8 ((((a16.toNat : Int) * 256 + (a17.toNat : Int)) * 65536 + ((a18.toNat : Int) * 256 + (a19.toNat : Int))) / 256 % 256), b8 ((((a16.toNat : Int) * 256 + (a17.toNat : Int)) * 65536 + ((a18.toNat : Int) * 256 + (a19.toNat : Int))) % 256)] ++ h := by
    unfold hd hd20 aloneP hln whl hln flg ad4 wd
    rfl
  rw [hw]
  have e0 : a0 = b8 (64 + (20 + (h.length : Int)) / 4) := (b8_eq _ _ (by omega)).symm
  have e1 : a1 = b8 (a1.toNat : Int) := (b8_eq _ _ (by omega)).symm
  have e2 : b8 ((n : Int) / 256) = b8 ((20 + (h.length : Int) + 0) / 256) := by congr 1; omega
  have e3 : b8 ((n : Int) % 256) = b8 ((20 + (h.length : Int) + 0) % 256) := by congr 1; omega
  have e4 : a4 = b8 (((a4.toNat : Int) * 256 + (a5.toNat : Int)) / 256) := (b8_eq _ _ (by omega)).symm
  have e5 : a5 = b8 (((a4.toNat : Int) * 256 + (a5.toNat : Int)) % 256) := (b8_eq _ _ (by omega)).symm
  have e6 : b8 (0 / 256) = b8 (0 / 256) := rfl
  have e7 : b8 (0 % 256) = b8 (0 % 256) := rfl
  have e8 : a8 = b8 (a8.toNat : Int) := (b8_eq _ _ (by omega)).symm
  have e9 : a9 = b8 (a9.toNat : Int) := (b8_eq _ _ (by omega)).symm
  have e10 : b8 (0 / 256) = b8 (0 / 256) := rfl
  have e11 : b8 (0 % 256) = b8 (0 % 256) := rfl
  have e12 : a12 = b8 ((((a12.toNat : Int) * 256 + (a13.toNat : Int)) * 65536 + ((a14.toNat : Int) * 256 + (a15.toNat : Int))) / 16777216) := (b8_eq _ _ (by omega)).symm
  have e13 : a13 = b8 ((((a12.toNat : Int) * 256 + (a13.toNat : Int)) * 65536 + ((a14.toNat : Int) * 256 + (a15.toNat : Int))) / 65536 % 256) := (b8_eq _ _ (by omega)).symm
  have e14 : a14 = b8 ((((a12.toNat : Int) * 256 + (a13.toNat : Int)) * 65536 + ((a14.toNat : Int) * 256 + (a15.toNat : Int))) / 256 % 256) := (b8_eq _ _ (by omega)).symm
  have e15 : a15 = b8 ((((a12.toNat : Int) * 256 + (a13.toNat : Int)) * 65536 + ((a14.toNat : Int) * 256 + (a15.toNat : Int))) % 256) := (b8_eq _ _ (by omega)).symm
  have e16 : a16 = b8 ((((a16.toNat : Int) * 256 + (a17.toNat : Int)) * 65536 + ((a18.toNat : Int) * 256 + (a19.toNat : Int))) / 16777216) := (b8_eq _ _ (by omega)).symm
  have e17 : a17 = b8 ((((a16.toNat : Int) * 256 + (a17.toNat : Int)) * 65536 + ((a18.toNat : Int) * 256 + (a19.toNat : Int))) / 65536 % 256) := (b8_eq _ _ (by omega)).symm
  have e18 : a18 = b8 ((((a16.toNat : Int) * 256 + (a17.toNat : Int)) * 65536 + ((a18.toNat : Int) * 256 + (a19.toNat : Int))) / 256 % 256) := (b8_eq _ _ (by omega)).symm
  have e19 : a19 = b8 ((((a16.toNat : Int) * 256 + (a17.toNat : Int)) * 65536 + ((a18.toNat : Int) * 256 + (a19.toNat : Int))) % 256) := (b8_eq _ _ (by omega)).symm
  show [a0, a1, b8 ((n : Int) / 256), b8 ((n : Int) % 256), a4, a5, b8 (0 / 256), b8 (0 % 256), a8, a9, b8 (0 / 256), b8 (0 % 256), a12, a13, a14, a15, a16, a17, a18, a19] ++ h = _
  rw [← e0, ← e1, ← e2, ← e3, ← e4, ← e5, ← e8, ← e9, ← e12, ← e13, ← e14, ← e15, ← e16, ← e17, ← e18, ← e19]
theorem alone_may (l : List UInt8) (n : Nat) (hn : l.length = n) (h20 : 20 ≤ n) (h60 : n ≤ 60) (h4 : n % 4 = 0) : May (aloneP l) ∧ Rng (aloneP l) := by
  have e : (aloneP l).opts.length = n - 20 := by show (l.drop 20).length = _; rw [List.length_drop, hn]
  refine ⟨⟨g8_lo _ _, g8_hi _ _, g8_lo _ _, g8_hi _ _, g8_lo _ _, g8_hi _ _, wd_lo _ _, wd_hi _ _, by show (0 : Int) ≤ 0; omega, by show (0 : Int) ≤ 65528; omega, by show (0 : Int) % 8 = 0; omega, by rw [e]; omega, by rw [e]; omega, ?_, fun h => by cases h⟩, ⟨ad4_lo _ _, ad4_hi _ _, ad4_lo _ _, ad4_hi _ _⟩⟩
  rw [e]
  show 20 + ((n - 20 : Nat) : Int) + 0 + 0 ≤ 65535
  omega
theorem alone_put (l : List UInt8) : putB (aloneP l) = hd (aloneP l) (chk (aloneP l)) := List.append_nil _
theorem alone_prs (l : List UInt8) (n : Nat) (hn : l.length = n) (h20 : 20 ≤ n) (h60 : n ≤ 60) (h4 : n % 4 = 0) : prs (hd (aloneP l) (chk (aloneP l))) = (0, aloneP l) := by
  obtain ⟨M, R⟩ := alone_may l n hn h20 h60 h4
  have := prs_put (aloneP l) [] M R
  rwa [List.append_nil, alone_put] at this

set_option maxHeartbeats 400000 in
theorem icloneOwn (ad : Addr) (n c : Nat) (l : List UInt8) (B : Nat) (w : World) (hn : l.length = n) (h : Bs w B (some ad) l) (hB : B ≤ w.heap.size) (hn2 : n ≤ 16777216) (hnc : n ≤ c) (h0 : 0 < n) :
    Calls Try.prog 39 #[.slice (some ad) n c] w fun e w' => ∃ g k, e = .returned (.slice (some ⟨g, 0, none⟩) n k) ∧ Own w' w.heap.size g n k l ∧ Below w.heap.size w w' := by
  obtain ⟨i0, hi, hz0, hz1, hz2⟩ := info_parts info_byte
  have q := fun (W : World) (a : Option Addr) (n c n' c' : Nat) => Lib.run_eql_slice_nil (P := Try.prog) W _ _ a n c n' c' Try.underlying23
  have HN := Go.Lib.hid hn
  have HB := Go.Lib.hid h
  clear hn h
  go_enter Try.func39, Try.ntmps39
  go_wp2_with (at_builtin; refine wpList_copy_rd rfl _ _ 23 rfl 5 i0 (.int .u8 0) 1 Try.underlying23 hi hz0 hz1 hz2 rfl rfl B (some ad) n c (l.map bv) rfl (by simpa using HN.out) (fun h => by cases h) HB.out.rd hB (bv_one _) (by unfold maxLen; omega) (by omega) ?_; intro v2 w2 hown2 hb2)
  obtain ⟨g, k, rfl, _, _, _, _⟩ := own_form hown2 h0
  go_ret
  exact ⟨g, k, rfl, hown2, hb2⟩

set_option maxRecDepth 100000 in
set_option maxHeartbeats 1000000 in
theorem itells (p : Pk) (Ao : Option Addr) (co : Nat) (Ab : Option Addr) (cb : Nat) (w : World) (b : Bool) (hb : ownErr p = b) (hB : Bs w w.heap.size Ab p.body) :
    Calls Try.prog 45 #[pkV p Ao co Ab cb] w fun e w' => e = .returned (.bool b) ∧ Below w.heap.size w w' := by
  have b0 : Below w.heap.size w (w.alloc (.cells #[.int .i64 p.tos, .int .i64 p.id, .bool p.df, .bool p.mf, .int .i64 p.off, .int .i64 p.ttl, .int .i64 p.proto, .int .u32 p.src, .int .u32 p.dst, .slice Ao p.opts.length co, .slice Ab p.body.length cb] 43)) := (Below.refl _ _).alloc (Nat.le_refl _) _
  unfold ownErr at hb
  by_cases h1 : p.proto = 1
  · have t1 : (p.proto == 1) = true := by simpa using h1
    by_cases h2 : 0 < p.body.length
    · rw [t1, decide_eq_true h2] at hb
      simp only [Bool.true_and] at hb
      obtain ⟨ad, rfl, hlt, hcell⟩ := g8_cell hB (k := 0) h2
      rw [add_zero] at hcell
      have hc0 : (w.alloc (.cells #[.int .i64 p.tos, .int .i64 p.id, .bool p.df, .bool p.mf, .int .i64 p.off, .int .i64 p.ttl, .int .i64 p.proto, .int .u32 p.src, .int .u32 p.dst, .slice Ao p.opts.length co, .slice (some ad) p.body.length cb] 43)).cell? ad = some (.int .u8 (g8 p.body 0)) := (b0.cell hlt).trans hcell
      have g0 := g8_lo p.body 0
      have g1 := g8_hi p.body 0
      have e0 := IntWalk.i64_in (g8 p.body 0) (by omega)
      have i0 : (0 : Int) < (p.body.length : Int) := by omega
      have HB := Go.Lib.hid hb
      clear hb hB h1 hcell
      generalize g8 p.body 0 = x at *
      have hne : ad.block ≠ w.heap.size := Nat.ne_of_lt hlt
      go_enter Try.func45, Try.ntmps45
      go_wp2_with fail
      refine (iisErr x _ b HB.out).mono ?_
      rintro e w' ⟨rfl, rfl⟩
      dsimp only
      go_wp2
      go_ret
      exact ⟨rfl, b0⟩
    · rw [decide_eq_false h2] at hb
      simp only [Bool.false_and, Bool.and_false] at hb
      subst hb
      have i0 : ¬ (0 : Int) < (p.body.length : Int) := by omega
      clear hB h1
      go_enter Try.func45, Try.ntmps45
      go_wp2
      go_ret
      exact ⟨rfl, b0⟩
  · have t1 : (p.proto == 1) = false := by simpa using h1
    rw [t1, Bool.false_and] at hb
    subst hb
    clear hB h1
    go_enter Try.func45, Try.ntmps45
    go_wp2
    go_ret
    exact ⟨rfl, b0⟩
end Go.Proofs.Ytndhiopfkgdhcaa
