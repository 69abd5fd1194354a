/- The contract of package ip's Parse. -/
import Derived.Test.YtndhiopfkgdhcaaIpA5
namespace Go.Proofs.Ytndhiopfkgdhcaa
open Go.ChangeShapes Go.WideShapes Go.ChangeAt Go.RowKit
set_option linter.unusedVariables false

theorem csum_n (A : Option Addr) (n c : Nat) (l : List UInt8) (B : Nat) (w : World) (hn : l.length = n) (h : Bs w B A l) (hl : n ≤ 16777216) (hlc : n ≤ c) (hc : c ≤ 9223372036854775807) :
    Calls Try.prog 37 #[.slice A n c] w fun e w' => e = .returned (.int .u16 (fo (tot l))) ∧ ∃ n, w' = w.drewN n := by
  subst hn
  exact csum A c l B w h hl hlc (by unfold maxLen; omega)

theorem prs_meas (l : List UInt8) (h : measE l ≠ 0) : prs l = (measE l, Pk.empty) := by
  unfold measE at h ⊢
  unfold prs
  split
  · rfl
  · split
    · rfl
    · split
      · rfl
      · rename_i h1 h2 h3
        rw [if_neg h1, if_neg h2, if_neg h3] at h
        exact absurd rfl h
theorem meas_ok (l : List UInt8) (h : measE l = 0) : 20 ≤ l.length ∧ 20 ≤ headN l ∧ headN l ≤ l.length ∧ headN l ≤ wd l 2 ∧ wd l 2 ≤ l.length := by
  unfold measE at h
  split at h
  · cases h
  · split at h
    · cases h
    · split at h
      · cases h
      · omega
theorem prs_ok (l : List UInt8) (h : measE l = 0) : prs l = if fo (tot (l.take (headN l).toNat)) ≠ 65535 then (5, Pk.empty) else if 32768 ≤ wd l 6 ∨ fitsB (rdP (l.take (headN l).toNat) ((l.take (wd l 2).toNat).drop (headN l).toNat)) = false then (7, Pk.empty) else (0, rdP (l.take (headN l).toNat) ((l.take (wd l 2).toNat).drop (headN l).toNat)) := by
  obtain ⟨m1, m2, m3, m4, m5⟩ := meas_ok l h
  have t : ∀ k, k < 20 → g8 (l.take (headN l).toNat) k = g8 l k := by
    intro k hk
    rw [g8_at _ k (by rw [List.length_take]; omega), g8_at l k (by omega), List.getElem_take]
  have tw : ∀ k, k < 19 → wd (l.take (headN l).toNat) k = wd l k := by
    intro k hk
    unfold wd; rw [t k (by omega), t (k + 1) (by omega)]
  have ta : ∀ k, k < 17 → ad4 (l.take (headN l).toNat) k = ad4 l k := by
    intro k hk
    unfold ad4; rw [tw k (by omega), tw (k + 2) (by omega)]
  have hp : rdP (l.take (headN l).toNat) ((l.take (wd l 2).toNat).drop (headN l).toNat) = ⟨g8 l 1, wd l 4, decide (wd l 6 / 16384 % 2 = 1), decide (wd l 6 / 8192 % 2 = 1), wd l 6 % 8192 * 8, g8 l 8, g8 l 9, ad4 l 12, ad4 l 16, (l.take (headN l).toNat).drop 20, (l.take (wd l 2).toNat).drop (headN l).toNat⟩ := by
    unfold rdP
    rw [t 1 (by omega), tw 4 (by omega), tw 6 (by omega), t 8 (by omega), t 9 (by omega), ta 12 (by omega), ta 16 (by omega)]
  rw [hp]
  have h3 : ¬ (g8 l 0 / 16 ≠ 4 ∨ headN l < 20 ∨ (l.length : Int) < headN l) := by
    intro h3
    unfold measE at h
    rw [if_neg (by omega), if_pos h3] at h
    cases h
  unfold prs
  rw [if_neg (by omega), if_neg h3, if_neg (by omega)]

/-- what Parse hands back. -/
def Parsed (w : World) (l : List UInt8) (e : Ending) (w' : World) : Prop := ∃ Ao co Ab cb, e = .returned (.tuple #[pkV (prs l).2 Ao co Ab cb, .int .i64 (prs l).1]) ∧ GivesPk w w' (prs l).2 Ao co Ab cb
theorem gives_empty {w w' : World} (h : Below w.heap.size w w') : GivesPk w w' Pk.empty none 0 none 0 :=
  ⟨Nat.le_refl _, by omega, fun _ => rfl, .inl rfl, fun _ h => (by cases h), Nat.le_refl _, by omega, fun _ => rfl, .inl rfl, fun _ h => (by cases h), h⟩

set_option maxRecDepth 100000 in
set_option maxHeartbeats 4000000 in
theorem cparseA (A : Option Addr) (n c : Nat) (l : List UInt8) (w : World) (hn : l.length = n) (h : Bs w w.heap.size A l) (hn2 : n ≤ 16777216) (hnc : n ≤ c) (hM : measE l ≠ 0) :
    Calls Try.prog 44 #[.slice A n c] w (Parsed w l) := by
  have hb : Bs (Zw w) w.heap.size A l := h.below (Zw.below (Below.refl _ _))
  have HP := Go.Lib.hid (prs_meas l hM)
  have HM : Hid ((if measE l = 0 then headN l else 0) = 0) := Go.Lib.hid (if_neg hM)
  have HM2 : Hid ((if measE l = 0 then wd l 2 else 0) = 0) := Go.Lib.hid (if_neg hM)
  have t1 : (measE l != 0) = true := by simpa using hM
  clear hM h
  go_enter Try.func44, Try.ntmps44
  go_wp2_with fail
  refine (cmeasure A n c l w.heap.size _ hn hb hn2 hnc).mono ?_
  rintro e w1 ⟨rfl, m, rfl⟩
  rw [HM.out, HM2.out]
  dsimp only
  generalize measE l = q at *
  have x0 : Below (w.heap.size + 1) (Zw w) ((Zw w).drewN m) := below_dn (Below.refl _ _) m
  obtain ⟨⟨z0, z1, z2, z3, z4, z5, z6, z7, z8, z9, z10⟩, zf⟩ := zx_of x0
  have y0 := Zw.below x0
  clear hb x0
  generalize (Zw w).drewN m = X at *
  go_wp2
  refine bodyPost_ret (v := .tuple #[.agg #[.int .i64 0, .int .i64 0, .bool false, .bool false, .int .i64 0, .int .i64 0, .int .i64 0, .int .u32 0, .int .u32 0, .slice none 0 0, .slice none 0 0], .int .i64 q]) ?_ rfl ⟨none, 0, none, 0, by rw [HP.out]; rfl, ?_⟩
  · simp [results, Try.results44, go_sem, z0, z1, z2, z3, z4, z5, z6, z7, z8, z9, z10]
  · rw [HP.out]
    exact gives_empty (below_set11 y0 _ _ _ _ _ _ _ _ _ _ _)

set_option maxRecDepth 100000 in
set_option maxHeartbeats 4000000 in
theorem cparseB (A : Option Addr) (n c : Nat) (l : List UInt8) (w : World) (hn : l.length = n) (h : Bs w w.heap.size A l) (hn2 : n ≤ 16777216) (hnc : n ≤ c) (hc63 : c ≤ 9223372036854775807) (hM : measE l = 0) (hS : fo (tot (l.take (headN l).toNat)) ≠ 65535) :
    Calls Try.prog 44 #[.slice A n c] w (Parsed w l) := by
  obtain ⟨m1, m2, m3, m4, m5⟩ := meas_ok l hM
  obtain ⟨k, hk⟩ : ∃ k : Nat, (k : Int) = headN l := ⟨(headN l).toNat, by omega⟩
  have hb : Bs (Zw w) w.heap.size A l := h.below (Zw.below (Below.refl _ _))
  have HP : Hid (prs l = (5, Pk.empty)) := Go.Lib.hid (by rw [prs_ok l hM, if_pos hS])
  have HM : Hid ((if measE l = 0 then headN l else 0) = (k : Int)) := Go.Lib.hid (by rw [if_pos hM, hk])
  have HM3 := Go.Lib.hid hM
  have ek : (headN l).toNat = k := by omega
  have HL : Hid ((l.take k).length = k) := Go.Lib.hid (by rw [List.length_take]; omega)
  rw [ek] at hS
  have t2 : (fo (tot (l.take k)) != 65535) = true := by simpa using hS
  have k1 : k ≤ n := by omega
  have k2 : (k : Int) ≤ (c : Int) := by omega
  have HS := Go.Lib.hid t2
  clear hM hS m1 m2 m3 m4 m5 hk ek t2
  go_enter Try.func44, Try.ntmps44
  go_wp2_with fail
  refine (cmeasure A n c l w.heap.size _ hn hb hn2 hnc).mono ?_
  rintro e w1 ⟨rfl, m, rfl⟩
  rw [HM.out, HM3.out]
  dsimp only
  have x0 : Below (w.heap.size + 1) (Zw w) ((Zw w).drewN m) := below_dn (Below.refl _ _) m
  have y0 := Zw.below x0
  clear hb
  generalize (Zw w).drewN m = X at *
  go_wp2_with fail
  refine (csum_n A k c (l.take k) w.heap.size _ HL.out ((h.below y0).take k) (by omega) (by omega) hc63).mono ?_
  rintro e w2 ⟨rfl, m2, rfl⟩
  have x1 : Below (w.heap.size + 1) (Zw w) (X.drewN m2) := below_dn x0 m2
  obtain ⟨⟨z0, z1, z2, z3, z4, z5, z6, z7, z8, z9, z10⟩, zf⟩ := zx_of x1
  have y1 := Zw.below x1
  clear x0 y0 x1 h
  generalize X.drewN m2 = X1 at *
  dsimp only
  have t2 := HS.out
  generalize fo (tot (l.take k)) = q at *
  go_wp2
  refine bodyPost_ret (v := .tuple #[.agg #[.int .i64 0, .int .i64 0, .bool false, .bool false, .int .i64 0, .int .i64 0, .int .i64 0, .int .u32 0, .int .u32 0, .slice none 0 0, .slice none 0 0], .int .i64 5]) ?_ rfl ⟨none, 0, none, 0, by rw [HP.out]; rfl, ?_⟩
  · simp [results, Try.results44, go_sem, z0, z1, z2, z3, z4, z5, z6, z7, z8, z9, z10]
  · rw [HP.out]
    exact gives_empty (below_set11 y1 _ _ _ _ _ _ _ _ _ _ _)
end Go.Proofs.Ytndhiopfkgdhcaa
