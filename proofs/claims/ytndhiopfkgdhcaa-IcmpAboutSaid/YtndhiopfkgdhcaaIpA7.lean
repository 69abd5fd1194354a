/- The contract of package ip's Parse, where the sum fits. -/
import Derived.Test.YtndhiopfkgdhcaaIpA6
namespace Go.Proofs.Ytndhiopfkgdhcaa
open Go.ChangeShapes Go.WideShapes Go.ChangeAt Go.RowKit
set_option linter.unusedVariables false

theorem cread2 (A : Option Addr) (n c : Nat) (l : List UInt8) (Ab : Option Addr) (nb cb : Nat) (body : List UInt8) (w X : World) (hn : l.length = n) (h : Bs w w.heap.size A l) (hn2 : n ≤ 16777216) (h20 : 20 ≤ n) (hnc : n ≤ c) (hc63 : c ≤ 9223372036854775807)
    (hb : body.length = nb) (hB : Bs w w.heap.size Ab body) (hb2 : nb ≤ 16777216) (hbc : nb ≤ cb) (hnil : Ab = none → cb = 0) (x : Below (w.heap.size + 1) (Zw w) X) :
    Calls Try.prog 52 #[.slice A n c, .slice Ab nb cb] X fun e w' => (∃ Ao co Ab' cb', e = .returned (pkV (rdP l body) Ao co Ab' cb') ∧ GivesPk X w' (rdP l body) Ao co Ab' cb') ∧ Below (w.heap.size + 1) (Zw w) w' :=
  (cread A n c l Ab nb cb body X hn ((h.below (Zw.below x)).more (Zw.below x).size) hn2 h20 hnc hc63 hb ((hB.below (Zw.below x)).more (Zw.below x).size) hb2 hbc hnil).mono
    fun e w' ⟨Ao, co, Ab', cb', he, hg⟩ => ⟨⟨Ao, co, Ab', cb', he, hg⟩, x.trans (hg.below.mono (Zw.size x))⟩

theorem zalloc {w X : World} (x : Below (w.heap.size + 1) (Zw w) X) (o : Obj) : Below (w.heap.size + 1) (Zw w) (X.alloc o) := x.alloc (Zw.size x) o
theorem below_far11 {B g : Nat} {a w : World} (h : Below B a w) (hg : B ≤ g) (u0 u1 u2 u3 u4 u5 u6 u7 u8 u9 u10 : Value) :
    Below B a (((((((((((w.setCell ⟨g, 0, none⟩ u0).setCell ⟨g, 1, none⟩ u1).setCell ⟨g, 2, none⟩ u2).setCell ⟨g, 3, none⟩ u3).setCell ⟨g, 4, none⟩ u4).setCell ⟨g, 5, none⟩ u5).setCell ⟨g, 6, none⟩ u6).setCell ⟨g, 7, none⟩ u7).setCell ⟨g, 8, none⟩ u8).setCell ⟨g, 9, none⟩ u9).setCell ⟨g, 10, none⟩ u10) :=
  ((((((((((h.setCell (p := ⟨g, 0, none⟩) hg u0).setCell (p := ⟨g, 1, none⟩) hg u1).setCell (p := ⟨g, 2, none⟩) hg u2).setCell (p := ⟨g, 3, none⟩) hg u3).setCell (p := ⟨g, 4, none⟩) hg u4).setCell (p := ⟨g, 5, none⟩) hg u5).setCell (p := ⟨g, 6, none⟩) hg u6).setCell (p := ⟨g, 7, none⟩) hg u7).setCell (p := ⟨g, 8, none⟩) hg u8).setCell (p := ⟨g, 9, none⟩) hg u9).setCell (p := ⟨g, 10, none⟩) hg u10

/-- behind the reading: the packet lies at slot 7. -/
def Mid (p : Pk) (w : World) (s : Value) (Y : World) : Prop := ∃ (g : Nat) (Ao : Option Addr) (co : Nat) (Ab : Option Addr) (cb : Nat), s = .pointer (some ⟨g, 0, none⟩) ∧ g < Y.heap.size ∧ Below (w.heap.size + 1) (Zw w) Y ∧
  (Y.cell? ⟨g, 0, none⟩ = some (.int .i64 p.tos) ∧ Y.cell? ⟨g, 1, none⟩ = some (.int .i64 p.id) ∧ Y.cell? ⟨g, 2, none⟩ = some (.bool p.df) ∧ Y.cell? ⟨g, 3, none⟩ = some (.bool p.mf) ∧ Y.cell? ⟨g, 4, none⟩ = some (.int .i64 p.off) ∧ Y.cell? ⟨g, 5, none⟩ = some (.int .i64 p.ttl) ∧ Y.cell? ⟨g, 6, none⟩ = some (.int .i64 p.proto) ∧ Y.cell? ⟨g, 7, none⟩ = some (.int .u32 p.src) ∧ Y.cell? ⟨g, 8, none⟩ = some (.int .u32 p.dst) ∧ Y.cell? ⟨g, 9, none⟩ = some (.slice Ao p.opts.length co) ∧ Y.cell? ⟨g, 10, none⟩ = some (.slice Ab p.body.length cb)) ∧
  p.opts.length ≤ co ∧ co ≤ 9223372036854775807 ∧ (Ao = none → co = 0) ∧ Bs Y Y.heap.size Ao p.opts ∧ (∀ ad, Ao = some ad → w.heap.size + 1 ≤ ad.block) ∧
  p.body.length ≤ cb ∧ cb ≤ 9223372036854775807 ∧ (Ab = none → cb = 0) ∧ Bs Y Y.heap.size Ab p.body ∧ (∀ ad, Ab = some ad → w.heap.size + 1 ≤ ad.block)
theorem mid_new {p : Pk} {w X w3 : World} {Ao : Option Addr} {co : Nat} {Ab : Option Addr} {cb : Nat} (hg : GivesPk X w3 p Ao co Ab cb) (hX : w.heap.size + 1 ≤ X.heap.size) (x3 : Below (w.heap.size + 1) (Zw w) w3) :
    Mid p w (.pointer (some ⟨w3.heap.size, 0, none⟩)) (w3.alloc (.cells #[.int .i64 p.tos, .int .i64 p.id, .bool p.df, .bool p.mf, .int .i64 p.off, .int .i64 p.ttl, .int .i64 p.proto, .int .u32 p.src, .int .u32 p.dst, .slice Ao p.opts.length co, .slice Ab p.body.length cb] 43)) := by
  refine ⟨w3.heap.size, Ao, co, Ab, cb, rfl, by simp, zalloc x3 _, ?_, hg.olen, hg.ocap, hg.onil, (hg.obs.below ((Below.refl _ _).alloc (Nat.le_refl _) _)).more (by simp), fun ad e => Nat.le_trans hX (hg.ofresh ad e), hg.blen, hg.bcap, hg.bnil, (hg.bbs.below ((Below.refl _ _).alloc (Nat.le_refl _) _)).more (by simp), fun ad e => Nat.le_trans hX (hg.bfresh ad e)⟩
  refine ⟨?_, ?_, ?_, ?_, ?_, ?_, ?_, ?_, ?_, ?_, ?_⟩ <;> simp [go_sem]
theorem mid_set {p : Pk} {w X w3 : World} {g : Nat} {Ao : Option Addr} {co : Nat} {Ab : Option Addr} {cb : Nat} {u0 u1 u2 u3 u4 u5 u6 u7 u8 u9 u10 : Value} (hg : GivesPk X w3 p Ao co Ab cb) (h1 : w.heap.size + 1 ≤ g) (h2 : g < X.heap.size) (x3 : Below (w.heap.size + 1) (Zw w) w3)
    (c0 : w3.cell? ⟨g, 0, none⟩ = some u0) (c1 : w3.cell? ⟨g, 1, none⟩ = some u1) (c2 : w3.cell? ⟨g, 2, none⟩ = some u2) (c3 : w3.cell? ⟨g, 3, none⟩ = some u3) (c4 : w3.cell? ⟨g, 4, none⟩ = some u4) (c5 : w3.cell? ⟨g, 5, none⟩ = some u5) (c6 : w3.cell? ⟨g, 6, none⟩ = some u6) (c7 : w3.cell? ⟨g, 7, none⟩ = some u7) (c8 : w3.cell? ⟨g, 8, none⟩ = some u8) (c9 : w3.cell? ⟨g, 9, none⟩ = some u9) (c10 : w3.cell? ⟨g, 10, none⟩ = some u10) :
    Mid p w (.pointer (some ⟨g, 0, none⟩)) (((((((((((w3.setCell ⟨g, 0, none⟩ (.int .i64 p.tos)).setCell ⟨g, 1, none⟩ (.int .i64 p.id)).setCell ⟨g, 2, none⟩ (.bool p.df)).setCell ⟨g, 3, none⟩ (.bool p.mf)).setCell ⟨g, 4, none⟩ (.int .i64 p.off)).setCell ⟨g, 5, none⟩ (.int .i64 p.ttl)).setCell ⟨g, 6, none⟩ (.int .i64 p.proto)).setCell ⟨g, 7, none⟩ (.int .u32 p.src)).setCell ⟨g, 8, none⟩ (.int .u32 p.dst)).setCell ⟨g, 9, none⟩ (.slice Ao p.opts.length co)).setCell ⟨g, 10, none⟩ (.slice Ab p.body.length cb)) := by
  have hs := hg.below.size
  refine ⟨g, Ao, co, Ab, cb, rfl, by simp; omega, below_far11 x3 h1 _ _ _ _ _ _ _ _ _ _ _, ?_, hg.olen, hg.ocap, hg.onil, (bs_set11 hg.obs (fun ad e => by have := hg.ofresh ad e; omega) _ _ _ _ _ _ _ _ _ _ _).more (by rw [size_set11]; exact Nat.le_refl _), fun ad e => by have := hg.ofresh ad e; omega, hg.blen, hg.bcap, hg.bnil, (bs_set11 hg.bbs (fun ad e => by have := hg.bfresh ad e; omega) _ _ _ _ _ _ _ _ _ _ _).more (by rw [size_set11]; exact Nat.le_refl _), fun ad e => by have := hg.bfresh ad e; omega⟩
  refine ⟨?_, ?_, ?_, ?_, ?_, ?_, ?_, ?_, ?_, ?_, ?_⟩ <;> simp [go_sem, c0, c1, c2, c3, c4, c5, c6, c7, c8, c9, c10]

set_option maxRecDepth 100000 in
set_option maxHeartbeats 4000000 in
theorem cparseC (A : Option Addr) (n c : Nat) (l : List UInt8) (w : World) (hn : l.length = n) (h : Bs w w.heap.size A l) (hn2 : n ≤ 16777216) (hnc : n ≤ c) (hc63 : c ≤ 9223372036854775807) (hM : measE l = 0) (hS : fo (tot (l.take (headN l).toNat)) = 65535) :
    Calls Try.prog 44 #[.slice A n c] w (Parsed w l) := by
  obtain ⟨m1, m2, m3, m4, m5⟩ := meas_ok l hM
  obtain ⟨ad, rfl, hlt, hcell⟩ := g8_cells h (by omega)
  clear hcell
  obtain ⟨k, hk⟩ : ∃ k : Nat, (k : Int) = headN l := ⟨(headN l).toNat, by omega⟩
  obtain ⟨q, hq⟩ : ∃ q : Nat, (q : Int) = wd l 2 := ⟨(wd l 2).toNat, by omega⟩
  have ek : (headN l).toNat = k := by omega
  have eq : (wd l 2).toNat = q := by omega
  have HP : Hid (prs l = if 32768 ≤ wd l 6 ∨ fitsB (rdP (l.take k) ((l.take q).drop k)) = false then (7, Pk.empty) else (0, rdP (l.take k) ((l.take q).drop k))) := Go.Lib.hid (by rw [prs_ok l hM, if_neg (by simpa using hS), ek, eq])
  have HM : Hid ((if measE l = 0 then headN l else 0) = (k : Int)) := Go.Lib.hid (by rw [if_pos hM, hk])
  have HM2 : Hid ((if measE l = 0 then wd l 2 else 0) = (q : Int)) := Go.Lib.hid (by rw [if_pos hM, hq])
  have HM3 := Go.Lib.hid hM
  have HL : Hid ((l.take k).length = k) := Go.Lib.hid (by rw [List.length_take]; omega)
  have HL2 : Hid (((l.take q).drop k).length = q - k) := Go.Lib.hid (by rw [List.length_drop, List.length_take]; omega)
  rw [ek] at hS
  have HS : Hid (fo (tot (l.take k)) = 65535) := Go.Lib.hid hS
  have k0 : 20 ≤ k := by omega
  have k1 : k ≤ n := by omega
  have k2 : (k : Int) ≤ (c : Int) := by omega
  have k3 : (q : Int) ≤ (c : Int) := by omega
  have k4 : (k : Int) ≤ (q : Int) := by omega
  have k5 : k ≤ q := by omega
  have k6 : q ≤ c := by omega
  have k7 : q ≤ n := by omega
  have HB := Go.Lib.hid h
  have HC : Hid (Bs w w.heap.size (if c = k then (some ad : Option Addr) else some (ad.add k)) ((l.take q).drop k)) := Go.Lib.hid (by rw [add_pos ad k (by omega)]; exact (h.take q).cut k c (by rw [List.length_take]; omega) (by omega))
  have HCN : Hid ((if c = k then (some ad : Option Addr) else some (ad.add k)) = none → c - k = 0) := Go.Lib.hid (fun h => by split at h <;> cases h)
  have HN := Go.Lib.hid hn
  have hb : Bs (Zw w) w.heap.size (some ad) l := h.below (Zw.below (Below.refl _ _))
  have w60 := wd_lo l 6
  have w61 := wd_hi l 6
  have hb15 := u16_b15 (wd l 6) w60 w61
  have HR6 : Hid (wd (l.take k) 6 = wd l 6) := Go.Lib.hid (by
    unfold wd
    rw [g8_at _ 6 (by rw [List.length_take]; omega), g8_at _ 7 (by rw [List.length_take]; omega), g8_at l 6 (by omega), g8_at l 7 (by omega), List.getElem_take, List.getElem_take])
  clear hM hS m1 m2 m3 m4 m5 hk hq ek eq h
  go_enter Try.func44, Try.ntmps44
  go_wp2_with fail
  refine (cmeasure (some ad) n c l w.heap.size _ hn hb hn2 hnc).mono ?_
  rintro e w1 ⟨rfl, m, rfl⟩
  rw [HM.out, HM2.out, HM3.out]
  dsimp only
  have x0 : Below (w.heap.size + 1) (Zw w) ((Zw w).drewN m) := below_dn (Below.refl _ _) m
  have y0 := Zw.below x0
  clear hb hn
  generalize (Zw w).drewN m = X at *
  go_wp2_with fail
  refine (csum_n (some ad) k c (l.take k) w.heap.size _ HL.out ((HB.out.below y0).take k) (by omega) (by omega) hc63).mono ?_
  rintro e w2 ⟨rfl, m2, rfl⟩
  have x1 : Below (w.heap.size + 1) (Zw w) (X.drewN m2) := below_dn x0 m2
  clear x0 y0
  generalize X.drewN m2 = X1 at *
  rw [HS.out]
  dsimp only
  have y1 := Zw.below x1
  have z1 := Zw.size x1
  have HO1 : Hid ((rdP (l.take k) ((l.take q).drop k)).opts.length ≤ 16777216) := Go.Lib.hid (by have := HN.out; unfold rdP; simp; omega)
  have HO2 : Hid ((rdP (l.take k) ((l.take q).drop k)).body.length ≤ 16777216) := Go.Lib.hid (by have := HN.out; unfold rdP; simp; omega)
  have HF0 : Hid (0 ≤ (rdP (l.take k) ((l.take q).drop k)).off) := Go.Lib.hid (by rw [show (rdP (l.take k) ((l.take q).drop k)).off = wd (l.take k) 6 % 8192 * 8 from rfl]; omega)
  have HF1 : Hid ((rdP (l.take k) ((l.take q).drop k)).off ≤ 65528) := Go.Lib.hid (by rw [show (rdP (l.take k) ((l.take q).drop k)).off = wd (l.take k) 6 % 8192 * 8 from rfl]; omega)
  go_upto_region 6 with fail
  have j1 : k ≤ 16777216 := by omega
  have j2 : k ≤ c := by omega
  have j3 : q - k ≤ 16777216 := by omega
  have j4 : q - k ≤ c - k := by omega
  go_cut [7] (fun s wx => Mid (rdP (l.take k) ((l.take q).drop k)) w s wx)
  case first =>
    go_region_held3 (fun w' => Below (w.heap.size + 1) (Zw w) w')
      (first
        | (with_reducible exact below_drew x1)
        | (with_reducible assumption)
        | (with_reducible exact zalloc (by assumption) _)
        | (with_reducible exact below_drew (zalloc x1 _))
        | (exact below_far11 (by with_reducible first | assumption | exact zalloc (by assumption) _) (by first | exact z1 | exact Zw.size x3) _ _ _ _ _ _ _ _ _ _ _))
      (first
        | (go_at_call 52; go_loud (refine (cread2 (some ad) k c (l.take k) _ (q - k) (c - k) ((l.take q).drop k) w _ HL.out (HB.out.take k) j1 k0 j2 hc63 HL2.out HC.out j3 j4 HCN.out (by with_reducible assumption)).mono ?_; rintro e w3 ⟨⟨Ao, co, Ab, cb, rfl, hg⟩, x3⟩; dsimp only; obtain ⟨hc3, hf3⟩ := bcell hg.below)))
    · clear HC HCN
      generalize (if c = k then (some ad : Option Addr) else some (ad.add k)) = AA
      go_wp2_with fail
      go_meet
      exact mid_new hg z1 x3
    · clear HC HCN
      generalize (if c = k then (some ad : Option Addr) else some (ad.add k)) = AA
      have hz : X1.heap.size < ((X1.alloc (.cells #[.int .i64 0, .int .i64 0, .bool false, .bool false, .int .i64 0, .int .i64 0, .int .i64 0, .int .u32 0, .int .u32 0, .slice none 0 0, .slice none 0 0] 43)).drew).heap.size := by simp
      go_wp2_with fail
      go_meet
      refine mid_set hg z1 hz x3 (u0 := .int .i64 0) (u1 := .int .i64 0) (u2 := .bool false) (u3 := .bool false) (u4 := .int .i64 0) (u5 := .int .i64 0) (u6 := .int .i64 0) (u7 := .int .u32 0) (u8 := .int .u32 0) (u9 := .slice none 0 0) (u10 := .slice none 0 0) ?_ ?_ ?_ ?_ ?_ ?_ ?_ ?_ ?_ ?_ ?_ <;> (refine (hc3 _ _ hz).trans ?_; simp [go_sem])
  case rest =>
    obtain ⟨g, Ao, co, Ab, cb, rfl, hgY, hx, ⟨c0, c1, c2, c3, c4, c5, c6, c7, c8, c9, c10⟩, q1, q2, q3, hbo, q4, r1, r2, r3, hbb, r4⟩ := hcut
    clear x1 y1 z1
    generalize wc = Y at *
    generalize rdP (l.take k) ((l.take q).drop k) = p at *
    have ho1 := HO1.out
    have ho2 := HO2.out
    have hf0 := HF0.out
    have hf1 := HF1.out
    clear HO1 HO2 HF0 HF1
    have i20 : (6 : Int) < (n : Int) := by omega
    by_cases hi : 32768 ≤ wd l 6
    · have t1 : (wd l 6 / 32768 % 2 * 32768 != 0) = true := by rw [bne_iff_ne]; omega
      have HP7 : Hid (prs l = (7, Pk.empty)) := Go.Lib.hid (by rw [HP.out, if_pos (.inl hi)])
      clear hi HP c0 c1 c2 c3 c4 c5 c6 c7 c8 c9 c10
      go_wp2_with fail
      refine (cword (some ad) n c l w.heap.size _ HN.out (HB.out.below (Zw.below hx)) 6 6 rfl (by omega) hn2).mono ?_
      rintro e wq ⟨rfl, m3, rfl⟩
      dsimp only
      have hx2 : Below (w.heap.size + 1) (Zw w) (Y.drewN m3) := below_dn hx m3
      obtain ⟨⟨z0, z1, z2, z3, z4, z5, z6, z7, z8, z9, z10⟩, zf⟩ := zx_of hx2
      have y2 := Zw.below hx2
      clear hx hx2
      generalize Y.drewN m3 = Y2 at *
      go_wp2
      refine bodyPost_ret (v := .tuple #[.agg #[.int .i64 0, .int .i64 0, .bool false, .bool false, .int .i64 0, .int .i64 0, .int .i64 0, .int .u32 0, .int .u32 0, .slice none 0 0, .slice none 0 0], .int .i64 7]) ?_ rfl ⟨none, 0, none, 0, by rw [HP7.out]; rfl, ?_⟩
      · simp [results, Try.results44, go_sem, z0, z1, z2, z3, z4, z5, z6, z7, z8, z9, z10]
      · rw [HP7.out]
        exact gives_empty (below_set11 y2 _ _ _ _ _ _ _ _ _ _ _)
    · have t1 : (wd l 6 / 32768 % 2 * 32768 != 0) = false := by rw [bne_eq_false_iff_eq]; omega
      go_wp2_with fail
      refine (cword (some ad) n c l w.heap.size _ HN.out (HB.out.below (Zw.below hx)) 6 6 rfl (by omega) hn2).mono ?_
      rintro e wq ⟨rfl, m3, rfl⟩
      dsimp only
      have hx2 : Below (w.heap.size + 1) (Zw w) (Y.drewN m3) := below_dn hx m3
      have hY2 : (Y.drewN m3).heap.size = Y.heap.size := rfl
      replace hbo : Bs (Y.drewN m3) (Y.drewN m3).heap.size Ao p.opts := hbo
      replace hbb : Bs (Y.drewN m3) (Y.drewN m3).heap.size Ab p.body := hbb
      replace hgY : g < (Y.drewN m3).heap.size := hgY
      replace c0 : (Y.drewN m3).cell? ⟨g, 0, none⟩ = _ := c0
      replace c1 : (Y.drewN m3).cell? ⟨g, 1, none⟩ = _ := c1
      replace c2 : (Y.drewN m3).cell? ⟨g, 2, none⟩ = _ := c2
      replace c3 : (Y.drewN m3).cell? ⟨g, 3, none⟩ = _ := c3
      replace c4 : (Y.drewN m3).cell? ⟨g, 4, none⟩ = _ := c4
      replace c5 : (Y.drewN m3).cell? ⟨g, 5, none⟩ = _ := c5
      replace c6 : (Y.drewN m3).cell? ⟨g, 6, none⟩ = _ := c6
      replace c7 : (Y.drewN m3).cell? ⟨g, 7, none⟩ = _ := c7
      replace c8 : (Y.drewN m3).cell? ⟨g, 8, none⟩ = _ := c8
      replace c9 : (Y.drewN m3).cell? ⟨g, 9, none⟩ = _ := c9
      replace c10 : (Y.drewN m3).cell? ⟨g, 10, none⟩ = _ := c10
      clear hx hY2
      generalize Y.drewN m3 = Y2 at *
      by_cases hfit : fitsB p = true
      · have HP0 : Hid (prs l = (0, p)) := Go.Lib.hid (by rw [HP.out, if_neg (by rw [hfit]; simp; omega)])
        clear hi HP
        have HFT := Go.Lib.hid hfit
        clear hfit
        go_wp2_with fail
        refine (cpieceFits p Ao co Ab cb _ ho1 ho2 hf0 hf1).mono ?_
        rintro e w5 ⟨rfl, hb5⟩
        rw [HFT.out]
        dsimp only
        have hx3 := hx2.trans (hb5.mono (Zw.size hx2))
        have d0 := cells_keep hb5 hgY c0
        have d1 := cells_keep hb5 hgY c1
        have d2 := cells_keep hb5 hgY c2
        have d3 := cells_keep hb5 hgY c3
        have d4 := cells_keep hb5 hgY c4
        have d5 := cells_keep hb5 hgY c5
        have d6 := cells_keep hb5 hgY c6
        have d7 := cells_keep hb5 hgY c7
        have d8 := cells_keep hb5 hgY c8
        have d9 := cells_keep hb5 hgY c9
        have d10 := cells_keep hb5 hgY c10
        have hbo5 := (hbo.below hb5).more hb5.size
        have hbb5 := (hbb.below hb5).more hb5.size
        have y5 := Zw.below hx3
        obtain ⟨⟨z0, z1, z2, z3, z4, z5, z6, z7, z8, z9, z10⟩, zf⟩ := zx_of hx3
        clear c0 c1 c2 c3 c4 c5 c6 c7 c8 c9 c10 hb5 hx2 hx3 hbo hbb
        go_wp2
        refine bodyPost_ret (v := .tuple #[.agg #[.int .i64 p.tos, .int .i64 p.id, .bool p.df, .bool p.mf, .int .i64 p.off, .int .i64 p.ttl, .int .i64 p.proto, .int .u32 p.src, .int .u32 p.dst, .slice Ao p.opts.length co, .slice Ab p.body.length cb], .int .i64 0]) ?_ rfl ⟨Ao, co, Ab, cb, by rw [HP0.out], ?_⟩
        · simp [results, Try.results44, go_sem, z0, z1, z2, z3, z4, z5, z6, z7, z8, z9, z10]
        · rw [HP0.out]
          exact ⟨q1, q2, q3, (bs_set11 hbo5 (fun ad e => by have := q4 ad e; omega) _ _ _ _ _ _ _ _ _ _ _).more (by rw [size_set11]; exact Nat.le_refl _), fun ad e => by have := q4 ad e; omega, r1, r2, r3, (bs_set11 hbb5 (fun ad e => by have := r4 ad e; omega) _ _ _ _ _ _ _ _ _ _ _).more (by rw [size_set11]; exact Nat.le_refl _), fun ad e => by have := r4 ad e; omega, below_set11 y5 _ _ _ _ _ _ _ _ _ _ _⟩
      · have HP7 : Hid (prs l = (7, Pk.empty)) := Go.Lib.hid (by rw [HP.out, if_pos (.inr (by simpa using hfit))])
        have HFT : Hid (fitsB p = false) := Go.Lib.hid (by simpa using hfit)
        clear hi HP hfit
        go_wp2_with fail
        refine (cpieceFits p Ao co Ab cb _ ho1 ho2 hf0 hf1).mono ?_
        rintro e w5 ⟨rfl, hb5⟩
        rw [HFT.out]
        dsimp only
        have hx3 := hx2.trans (hb5.mono (Zw.size hx2))
        have y5 := Zw.below hx3
        obtain ⟨⟨z0, z1, z2, z3, z4, z5, z6, z7, z8, z9, z10⟩, zf⟩ := zx_of hx3
        clear c0 c1 c2 c3 c4 c5 c6 c7 c8 c9 c10 hb5 hx2 hx3 hbo hbb
        go_wp2
        refine bodyPost_ret (v := .tuple #[.agg #[.int .i64 0, .int .i64 0, .bool false, .bool false, .int .i64 0, .int .i64 0, .int .i64 0, .int .u32 0, .int .u32 0, .slice none 0 0, .slice none 0 0], .int .i64 7]) ?_ rfl ⟨none, 0, none, 0, by rw [HP7.out]; rfl, ?_⟩
        · simp [results, Try.results44, go_sem, z0, z1, z2, z3, z4, z5, z6, z7, z8, z9, z10]
        · rw [HP7.out]
          exact gives_empty (below_set11 y5 _ _ _ _ _ _ _ _ _ _ _)
end Go.Proofs.Ytndhiopfkgdhcaa
