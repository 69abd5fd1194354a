/- Lemmas, several texts in one. -/
import Derived.Test.YtoghcefamoefpaaGreatDoorQ02
import Derived.Laws.Runes
/- The document's Num. -/
namespace Go.Proofs.YtoghcefamoefpaaGreatDoor
open Go.ChangeShapes Go.WideShapes Go.ChangeAt Go.RowKit
set_option linter.unusedVariables false
set_option linter.unusedSimpArgs false

theorem enc_digF : ∀ k : Fin 10, txB (Utf8.encode (48 + (k.val : Int))) = [UInt8.ofNat (48 + k.val)] := by decide
theorem enc_dig {k : Nat} (h : k < 10) : txB (Utf8.encode (48 + (k : Int))) = [UInt8.ofNat (48 + k)] := enc_digF ⟨k, h⟩
set_option maxRecDepth 100000 in
set_option maxHeartbeats 4000000 in
theorem rsize15 (n : Nat) : n < 1000000 → ∀ w : World, Calls Tryz.prog 44 #[.int .u64 n] w fun e w' => (∃ s, e = .returned (.string s) ∧ txB s = natD n) ∧ w' = w := by
  induction n using Nat.strongRecOn with
  | _ n ih =>
    intro hn w
    have n0 : (0 : Int) ≤ (n : Int) := by omega
    by_cases h : n < 10
    · have t1 : (n : Int) < 10 := by omega
      have e1 : IntKind.u64.wrap (48 + (n : Int)) = 48 + (n : Int) := IntWalk.u64_in _ (by omega)
      have e2 : IntKind.i32.wrap (48 + (n : Int)) = 48 + (n : Int) := IntWalk.i32_in _ (by omega)
      have HE : Hid (txB (Utf8.encode (48 + (n : Int))) = natD n) := Go.Lib.hid (by rw [enc_dig h, natD_small h])
      clear ih
      go_enter Tryz.func44, Tryz.ntmps44
      go_wp2_with fail
      go_ret
      exact ⟨⟨_, rfl, HE.out⟩, rfl⟩
    · have t1 : ¬ (n : Int) < 10 := by omega
      obtain ⟨a, ha⟩ : ∃ a : Nat, n / 10 = a := ⟨_, rfl⟩
      obtain ⟨b, hb⟩ : ∃ b : Nat, n % 10 = b := ⟨_, rfl⟩
      have e1 : Int.tdiv (n : Int) 10 = (a : Int) := by rw [Int.tdiv_eq_ediv_of_nonneg n0]; omega
      have e2 : IntKind.u64.wrap (a : Int) = (a : Int) := IntWalk.u64_in _ (by omega)
      have e3 : Int.tmod (n : Int) 10 = (b : Int) := by rw [Int.tmod_eq_emod_of_nonneg n0]; omega
      have e4 : IntKind.u64.wrap (b : Int) = (b : Int) := IntWalk.u64_in _ (by omega)
      have e5 : IntKind.u64.wrap (48 + (b : Int)) = 48 + (b : Int) := IntWalk.u64_in _ (by omega)
      have e6 : IntKind.i32.wrap (48 + (b : Int)) = 48 + (b : Int) := IntWalk.i32_in _ (by omega)
      have HE : Hid (txB (Utf8.encode (48 + (b : Int))) = [UInt8.ofNat (48 + n % 10)]) := Go.Lib.hid (by rw [hb]; exact enc_dig (by omega))
      have HI := Go.Lib.hid (ih a (by omega) (by omega))
      have HN : Hid (natD n = natD a ++ [UInt8.ofNat (48 + n % 10)]) := Go.Lib.hid (by rw [natD_big h, ha])
      have HL : Hid ((natD a).length ≤ 1000) := Go.Lib.hid (by have := natD_len (n := a) (k := 6) (by omega); omega)
      clear ih ha hb
      go_enter Tryz.func44, Tryz.ntmps44
      go_upto_region 3 with fail
      have hsz : (Utf8.encode (48 + (b : Int))).size = 1 := by rw [← txB_len, HE.out]; rfl
      go_wp2_with (go_at_call 44; refine (HI.out _).mono ?_; rintro e w2 ⟨⟨s, rfl, hs⟩, rfl⟩; have hss : s.size ≤ 1000 := (by rw [← txB_len, hs]; exact HL.out); dsimp only)
      go_ret
      exact ⟨⟨_, rfl, by rw [txB_app, hs, HE.out, HN.out]⟩, rfl⟩
set_option maxRecDepth 100000 in
set_option maxHeartbeats 4000000 in
theorem rnum15_ (n : Int) (h : 0 ≤ n ∧ n < 1000000) (w : World) : Calls Tryz.prog 30 #[.int .i64 n] w fun e w' => (∃ s, e = .returned (.string s) ∧ txB s = numT n) ∧ w' = w := by
  obtain ⟨k, rfl⟩ := Int.eq_ofNat_of_zero_le h.1
  have t1 : ¬ ((k : Int) < 0) := by omega
  have e1 : IntKind.u64.wrap (k : Int) = (k : Int) := IntWalk.u64_in _ (by omega)
  have HS := Go.Lib.hid (rsize15 k (by omega))
  have HN : Hid (natD k = numT (k : Int)) := Go.Lib.hid (by unfold numT; rw [if_neg t1, Int.natAbs_natCast])
  go_enter Tryz.func30, Tryz.ntmps30
  go_wp2_with (go_at_call 44; refine (HS.out _).mono ?_; rintro e w2 ⟨⟨s, rfl, hs⟩, rfl⟩; dsimp only)
  go_ret
  exact ⟨⟨_, rfl, by rw [hs, HN.out]⟩, rfl⟩
set_option maxRecDepth 100000 in
set_option maxHeartbeats 4000000 in
theorem rnum15 (n : Int) (h : 0 ≤ n ∧ n < 1000000) (w : World) : Calls Tryz.prog 11 #[.int .i64 n] w fun e w' => (∃ s, e = .returned (.string s) ∧ txB s = numT n) ∧ w' = w := by
  have HS := Go.Lib.hid (fun W => rnum15_ n h W)
  go_enter Tryz.func11, Tryz.ntmps11
  go_wp2_with (go_at_call 30; refine (HS.out _).mono ?_; rintro e w2 ⟨⟨s, rfl, hs⟩, rfl⟩; dsimp only)
  go_ret
  exact ⟨⟨_, rfl, hs⟩, rfl⟩
end Go.Proofs.YtoghcefamoefpaaGreatDoor

/- ConfLast, from the contracts. -/
namespace Go.Proofs.YtoghcefamoefpaaGreatDoor
open Go.ChangeShapes Go.WideShapes Go.ChangeAt Go.RowKit
set_option linter.unusedVariables false
set_option linter.unusedSimpArgs false

abbrev preB : ByteArray := { data := #[35, 32, 120, 10, 10, 32, 32, 98, 117, 100, 103, 101, 116, 32, 32, 55, 10] }
abbrev midB : ByteArray := { data := #[32, 32, 32, 10, 32, 98, 117, 100, 103, 101, 116, 32] }
abbrev endB : ByteArray := { data := #[32, 32] }
theorem info_int15 : (Tryz.prog.info? 3).map (·.size) = some 1 := by kernel_rfl
set_option maxRecDepth 100000 in
set_option maxHeartbeats 16000000 in
theorem confLast (kA0 : AwakeC15) (kS0 : ShowC15) (kP0 : ParseC15) (kM0 : SameC15) (c : Cf) (p : Cfm) (n : Int) (hn : 0 ≤ n ∧ n ≤ 255) (w : World) (h : CfAt w c p) :
    Calls Tryz.prog 4 #[cfV c p, .int .u8 n] w fun e w' => e = .returned (.bool true) ∧ Below w.heap.size w w' := by
  have kA := Go.Lib.hid kA0
  have kS := Go.Lib.hid kS0
  have kP := Go.Lib.hid kP0
  have kM := Go.Lib.hid kM0
  have y0 : Below w.heap.size w (w.alloc (oCf c p)) := (Below.refl _ _).alloc (Nat.le_refl _) _
  have hb := Bxo.made w 27 (cfL c p)
  have HC := Go.Lib.hid h
  have tok1 : True := trivial
  have tok2 : True := trivial
  have tok3 : True := trivial
  have tok4 : True := trivial
  clear kA0 kS0 kP0 kM0 h
  have en : IntKind.i64.wrap n = n := IntWalk.i64_in _ (by omega)
  go_enter Tryz.func4, Tryz.ntmps4
  go_upto_region 1 with fail
  generalize w.alloc (oCf c p) = W at *
  have HB := Go.Lib.hid (show Bxo W w.heap.size 27 (cfL c p) from hb)
  clear hb
  go_upto_region 3 with (go_at_call 5; refine (kA.out _ (HC.out.at y0).tb).mono ?_; rintro e w1 ⟨rfl, y1⟩; dsimp only)
  have x1 := y0.trans (y1.mono y0.size)
  have HB1 := Go.Lib.hid (HB.out.keep y1 HB.out.lt)
  have HC1 := Go.Lib.hid (HC.out.at x1)
  obtain ⟨sh, hsh⟩ : ∃ q, shortC c = q := ⟨_, rfl⟩
  have HSH := Go.Lib.hid hsh
  clear y1 hsh
  cases sh
  · go_wp2_with (first
      | (clear tok1; refine wpList_load_box rfl 27 _ rfl w.heap.size rfl (cfL c p) _ HB1.out Tryz.underlying27 rfl info_cf ?_)
      | (go_at_call 6; refine (rshort15 c p w1 _ HSH.out).mono ?_; rintro e w2 ⟨rfl, y2⟩; dsimp only))
    go_ret
    exact ⟨rfl, x1.trans (y2.mono x1.size)⟩
  go_upto_region 6 with (first
    | (clear tok1; refine wpList_load_box rfl 27 _ rfl w.heap.size rfl (cfL c p) _ HB1.out Tryz.underlying27 rfl info_cf ?_)
    | (go_at_call 6; refine (rshort15 c p w1 _ HSH.out).mono ?_; rintro e w2 ⟨rfl, y2⟩; have x2 := x1.trans (y2.mono x1.size); have HB2 := Go.Lib.hid (HB1.out.keep y2 HB1.out.lt); have HC2 := Go.Lib.hid (HC1.out.at y2); dsimp only)
    | (clear tok2; refine wpList_load_box rfl 27 _ rfl w.heap.size rfl (cfL c p) _ HB2.out Tryz.underlying27 rfl info_cf ?_)
    | (go_at_call 7; refine (kS.out c p HSH.out w2 HC2.out).mono ?_; rintro e w3 hso; obtain ⟨⟨u, n1, rfl, hs1, hs2⟩, y3⟩ := hso; dsimp only))
  have x3 := x2.trans (y3.mono x2.size)
  have HB3 := Go.Lib.hid (HB2.out.keep y3 HB2.out.lt)
  have HC3 := Go.Lib.hid (HC2.out.at y3)
  obtain ⟨b, hb⟩ : ∃ q, rightCf c = q := ⟨_, rfl⟩
  clear x1 x2 y2 y3 HB1 HB2 HC1 HC2
  cases b
  · obtain rfl := hs2 hb
    go_wp2_with fail
    go_ret
    exact ⟨rfl, x3⟩
  obtain ⟨hs3, rfl⟩ := hs1 hb
  have hr := (rightCf_iff c).1 hb
  have hrg := HC3.out.rng
  have husz : u.size ≤ 50000 := by rw [← txB_len, hs3]; exact show_len hr hrg
  have hpsz : preB.size = 17 := rfl
  have hmsz : midB.size = 12 := rfl
  have hesz : endB.size = 2 := rfl
  have HNL : Hid ((numT n).length ≤ 1000) := Go.Lib.hid (by have := num_len (n := n) (k := 2) (by omega); omega)
  have HPL := Go.Lib.hid (parse_last hr hrg hn)
  have HS3 := Go.Lib.hid hs3
  clear hs1 hs2 hs3 hb hr hrg
  go_upto_region 9 with (first
    | (go_at_call 11; refine (rnum15 n (by omega) w3).mono ?_; rintro e w4 ⟨⟨v, rfl, hv⟩, rfl⟩; have hvsz : v.size ≤ 1000 := (by rw [← txB_len, hv]; exact HNL.out); have HV := Go.Lib.hid hv; clear hv; dsimp only)
    | (go_at_call 8; refine (kP.out (preB ++ u ++ midB ++ v ++ endB) (by simp only [ByteArray.size_append]; omega) ({ c with budget := n }, 0, 0) (by rw [← HPL.out]; congr 1; rw [txB_app, txB_app, txB_app, txB_app, HS3.out, HV.out]; simp only [postT, List.append_assoc]; rfl) w4 HC3.out.tb).mono ?_; rintro e w5 hpo; obtain ⟨⟨p5, rfl, hc5, hfrp5⟩, y5⟩ := hpo; dsimp only))
  have x5 := x3.trans (y5.mono x3.size)
  have x6 := below_alloc x5 x5.size (oCf { c with budget := n } p5)
  have y6 := below_alloc y5 y5.size (oCf { c with budget := n } p5)
  have hb6 := Bxo.made w5 27 (cfL { c with budget := n } p5)
  have HD6 : Hid (CfAt (w5.alloc (oCf { c with budget := n } p5)) { c with budget := n } p5) := Go.Lib.hid (hc5.at ((Below.refl _ _).alloc (Nat.le_refl _) (oCf { c with budget := n } p5)))
  have HC6 := Go.Lib.hid (HC3.out.at y6)
  have HB6 := Go.Lib.hid (HB3.out.keep y6 HB3.out.lt)
  have hlt := HB3.out.lt
  have hlt5 := y5.size
  clear hc5 x5 y5 y6 HB3 HC3
  generalize w5.alloc (oCf { c with budget := n } p5) = w6 at *
  generalize w5.heap.size = g6 at *
  have HE6 := Go.Lib.hid (show Bxo w6 g6 27 (cfL { c with budget := n } p5) from hb6)
  clear hb6
  go_upto_region 10 with (refine wpList_store_any rfl 3 _ _ rfl w.heap.size 9 27 _ [.int .i64 n] _ rfl rfl rfl HB6.out info_int15 (by show 9 + 1 ≤ 10; omega) (by simp [Value.oneCell']) ?_; intro w7 hb7 ho7; have HB7 : Hid (Bxo w7 w.heap.size 27 (cfL { c with budget := n } p)) := Go.Lib.hid hb7; have HE7 := Go.Lib.hid (HE6.out.only ho7 (by omega)); clear hb7)
  have x7 := x6.trans (ho7.below (Nat.le_refl _))
  have HCA := Go.Lib.hid ((HC.out.at x7).budget n)
  have HCB := Go.Lib.hid (HD6.out.only ho7 hfrp5 hlt HCA.out.tb)
  have HS7 : Hid (shortC { c with budget := n } = true) := Go.Lib.hid HSH.out
  go_wp2_with (first
    | (clear tok3; refine wpList_load_box rfl 27 _ rfl w.heap.size rfl (cfL { c with budget := n } p) _ HB7.out Tryz.underlying27 rfl info_cf ?_)
    | (clear tok4; refine wpList_load_box rfl 27 _ rfl g6 rfl (cfL { c with budget := n } p5) _ HE7.out Tryz.underlying27 rfl info_cf ?_)
    | (go_at_call 9; refine (kM.out { c with budget := n } p p5 HS7.out w7 HCA.out HCB.out).mono ?_; rintro e w8 ⟨rfl, y8⟩; have x8 := x7.trans (y8.mono x7.size); dsimp only))
  go_ret
  exact ⟨rfl, x8⟩
end Go.Proofs.YtoghcefamoefpaaGreatDoor
