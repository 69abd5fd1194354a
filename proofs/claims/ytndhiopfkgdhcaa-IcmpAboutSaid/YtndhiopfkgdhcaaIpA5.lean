/- Contracts of package ip's reading functions: a head's parts, a packet. -/
import Derived.Test.YtndhiopfkgdhcaaIpA4
namespace Go.Proofs.Ytndhiopfkgdhcaa
open Go.ChangeShapes Go.WideShapes Go.ChangeAt Go.RowKit
set_option linter.unusedVariables false

theorem u16_mask13 (x : Int) (h0 : 0 ≤ x) (h1 : x ≤ 65535) : bits .and .u16 x 8191 = x % 8192 := by
  rw [u16_and x 8191 h0 (by omega) (by omega) (by omega)]
  show ((x.toNat &&& 8191 : Nat) : Int) = _
  rw [nat_mask13]; omega
theorem u16_b14 (x : Int) (h0 : 0 ≤ x) (h1 : x ≤ 65535) : bits .and .u16 x 16384 = x / 16384 % 2 * 16384 := by
  rw [u16_and x 16384 h0 (by omega) (by omega) (by omega)]
  show ((x.toNat &&& 2 ^ 14 : Nat) : Int) = _
  rw [nat_bit]; omega
theorem u16_b13 (x : Int) (h0 : 0 ≤ x) (h1 : x ≤ 65535) : bits .and .u16 x 8192 = x / 8192 % 2 * 8192 := by
  rw [u16_and x 8192 h0 (by omega) (by omega) (by omega)]
  show ((x.toNat &&& 2 ^ 13 : Nat) : Int) = _
  rw [nat_bit]; omega
theorem u16_b15 (x : Int) (h0 : 0 ≤ x) (h1 : x ≤ 65535) : bits .and .u16 x 32768 = x / 32768 % 2 * 32768 := by
  rw [u16_and x 32768 h0 (by omega) (by omega) (by omega)]
  show ((x.toNat &&& 2 ^ 15 : Nat) : Int) = _
  rw [nat_bit]; omega

/-- the packet of a head and a body. -/
def rdP (l body : List UInt8) : Pk := ⟨g8 l 1, wd l 4, decide (wd l 6 / 16384 % 2 = 1), decide (wd l 6 / 8192 % 2 = 1), wd l 6 % 8192 * 8, g8 l 8, g8 l 9, ad4 l 12, ad4 l 16, l.drop 20, body⟩

/-- what a call hands back that gives a packet in new memory. -/
structure GivesPk (w0 w : World) (p : Pk) (Ao : Option Addr) (co : Nat) (Ab : Option Addr) (cb : Nat) : Prop where
  olen : p.opts.length ≤ co
  ocap : co ≤ 9223372036854775807
  onil : Ao = none → co = 0
  obs : Bs w w.heap.size Ao p.opts
  ofresh : ∀ ad, Ao = some ad → w0.heap.size ≤ ad.block
  blen : p.body.length ≤ cb
  bcap : cb ≤ 9223372036854775807
  bnil : Ab = none → cb = 0
  bbs : Bs w w.heap.size Ab p.body
  bfresh : ∀ ad, Ab = some ad → w0.heap.size ≤ ad.block
  below : Below w0.heap.size w0 w
theorem Bs.far {w : World} {B : Nat} {A : Option Addr} {l : List UInt8} (h : Bs w B A l) (p : Addr) (u : Value) (hp : ∀ ad, A = some ad → p.block ≠ ad.block) : Bs (w.setCell p u) B A l := by
  rcases h with h | ⟨ad, rfl, hlt, hc⟩
  · exact .inl h
  · refine .inr ⟨ad, rfl, hlt, fun j b hj => ?_⟩
    rw [World.cell?_setCell_other w p (ad.add j) u (fun e => hp ad rfl (by rw [e, block_add]))]
    exact hc j b hj

theorem cword4 (A : Option Addr) (n c : Nat) (l : List UInt8) (B : Nat) (w : World) (hn : l.length = n) (h : Bs w B A l) (hk : 20 ≤ n) (hn2 : n ≤ 16777216) :
    Calls Try.prog 53 #[.slice A n c, .int .i64 4] w fun e w' => e = .returned (.int .u16 (wd l 4)) ∧ ∃ m, w' = w.drewN m := cword A n c l B w hn h 4 4 rfl (by omega) hn2
theorem caddr12 (A : Option Addr) (n c : Nat) (l : List UInt8) (B : Nat) (w : World) (hn : l.length = n) (h : Bs w B A l) (hk : 20 ≤ n) (hn2 : n ≤ 16777216) :
    Calls Try.prog 61 #[.slice A n c, .int .i64 12] w fun e w' => e = .returned (.int .u32 (ad4 l 12)) ∧ ∃ m, w' = w.drewN m := caddr A n c l B w hn h 12 12 rfl (by omega) hn2
theorem caddr16 (A : Option Addr) (n c : Nat) (l : List UInt8) (B : Nat) (w : World) (hn : l.length = n) (h : Bs w B A l) (hk : 20 ≤ n) (hn2 : n ≤ 16777216) :
    Calls Try.prog 61 #[.slice A n c, .int .i64 16] w fun e w' => e = .returned (.int .u32 (ad4 l 16)) ∧ ∃ m, w' = w.drewN m := caddr A n c l B w hn h 16 16 rfl (by omega) hn2

/-- a world in which an empty packet lies in the newest block. -/
abbrev Zw (w : World) : World := w.alloc (.cells #[.int .i64 0, .int .i64 0, .bool false, .bool false, .int .i64 0, .int .i64 0, .int .i64 0, .int .u32 0, .int .u32 0, .slice none 0 0, .slice none 0 0] 43)
theorem Zw.below {w X : World} (x : Below (w.heap.size + 1) (Zw w) X) : Below w.heap.size w X := ((Below.refl _ _).alloc (Nat.le_refl _) _).trans (x.mono (Nat.le_succ _))
theorem Zw.size {w X : World} (x : Below (w.heap.size + 1) (Zw w) X) : w.heap.size + 1 ≤ X.heap.size := by have := x.size; simpa using this
theorem cclone2 (A : Option Addr) (n c : Nat) (l : List UInt8) (w X : World) (hn : l.length = n) (h : Bs w w.heap.size A l) (hn2 : n ≤ 16777216) (hnil : A = none → c = 0) (hnc : n ≤ c) (x : Below (w.heap.size + 1) (Zw w) X) :
    Calls Try.prog 39 #[.slice A n c] X fun e w' => Cloned X n l e w' ∧ Below (w.heap.size + 1) (Zw w) w' :=
  (cclone A n c l w.heap.size X hn (h.below (Zw.below x)) (Zw.below x).size hn2 hnil hnc).mono fun e w' ⟨A', c', he, hg⟩ => ⟨⟨A', c', he, hg⟩, x.trans (hg.below.mono (Zw.size x))⟩

theorem rdS {w w' : World} {ad : Addr} {x y z : Value} (hlt : ad.block < w.heap.size) (c1 : w.cell? ⟨ad.block, ad.off + 1, none⟩ = some x) (c8 : w.cell? ⟨ad.block, ad.off + 8, none⟩ = some y) (c9 : w.cell? ⟨ad.block, ad.off + 9, none⟩ = some z) (hb : Below w.heap.size w w') :
    w'.cell? ⟨ad.block, ad.off + 1, none⟩ = some x ∧ w'.cell? ⟨ad.block, ad.off + 8, none⟩ = some y ∧ w'.cell? ⟨ad.block, ad.off + 9, none⟩ = some z ∧ Below w.heap.size w w' :=
  ⟨(hb.cell (p := ⟨ad.block, ad.off + 1, none⟩) hlt).trans c1, (hb.cell (p := ⟨ad.block, ad.off + 8, none⟩) hlt).trans c8, (hb.cell (p := ⟨ad.block, ad.off + 9, none⟩) hlt).trans c9, hb⟩

theorem rdB {a b c : Prop} {B : Nat} {w w' : World} (h : a ∧ b ∧ c ∧ Below B w w') : Below B w w' := h.2.2.2
theorem below_set {B : Nat} {a w : World} (h : Below B a w) (k : Nat) (u : Value) : Below B a (w.setCell ⟨B, k, none⟩ u) := h.setCell (Nat.le_refl _) u
theorem below_set11 {B : Nat} {a w : World} (h : Below B a w) (u0 u1 u2 u3 u4 u5 u6 u7 u8 u9 u10 : Value) :
    Below B a (((((((((((w.setCell ⟨B, 0, none⟩ u0).setCell ⟨B, 1, none⟩ u1).setCell ⟨B, 2, none⟩ u2).setCell ⟨B, 3, none⟩ u3).setCell ⟨B, 4, none⟩ u4).setCell ⟨B, 5, none⟩ u5).setCell ⟨B, 6, none⟩ u6).setCell ⟨B, 7, none⟩ u7).setCell ⟨B, 8, none⟩ u8).setCell ⟨B, 9, none⟩ u9).setCell ⟨B, 10, none⟩ u10) :=
  below_set (below_set (below_set (below_set (below_set (below_set (below_set (below_set (below_set (below_set (below_set h _ _) _ _) _ _) _ _) _ _) _ _) _ _) _ _) _ _) _ _) _ _
theorem bs_set11 {g B : Nat} {w : World} {A : Option Addr} {l : List UInt8} (h : Bs w B A l) (hf : ∀ ad, A = some ad → g ≠ ad.block) (u0 u1 u2 u3 u4 u5 u6 u7 u8 u9 u10 : Value) :
    Bs (((((((((((w.setCell ⟨g, 0, none⟩ u0).setCell ⟨g, 1, none⟩ u1).setCell ⟨g, 2, none⟩ u2).setCell ⟨g, 3, none⟩ u3).setCell ⟨g, 4, none⟩ u4).setCell ⟨g, 5, none⟩ u5).setCell ⟨g, 6, none⟩ u6).setCell ⟨g, 7, none⟩ u7).setCell ⟨g, 8, none⟩ u8).setCell ⟨g, 9, none⟩ u9).setCell ⟨g, 10, none⟩ u10) B A l :=
  ((((((((((h.far ⟨g, 0, none⟩ u0 hf).far ⟨g, 1, none⟩ u1 hf).far ⟨g, 2, none⟩ u2 hf).far ⟨g, 3, none⟩ u3 hf).far ⟨g, 4, none⟩ u4 hf).far ⟨g, 5, none⟩ u5 hf).far ⟨g, 6, none⟩ u6 hf).far ⟨g, 7, none⟩ u7 hf).far ⟨g, 8, none⟩ u8 hf).far ⟨g, 9, none⟩ u9 hf).far ⟨g, 10, none⟩ u10 hf
theorem size_set11 (g : Nat) (w : World) (u0 u1 u2 u3 u4 u5 u6 u7 u8 u9 u10 : Value) :
    (((((((((((w.setCell ⟨g, 0, none⟩ u0).setCell ⟨g, 1, none⟩ u1).setCell ⟨g, 2, none⟩ u2).setCell ⟨g, 3, none⟩ u3).setCell ⟨g, 4, none⟩ u4).setCell ⟨g, 5, none⟩ u5).setCell ⟨g, 6, none⟩ u6).setCell ⟨g, 7, none⟩ u7).setCell ⟨g, 8, none⟩ u8).setCell ⟨g, 9, none⟩ u9).setCell ⟨g, 10, none⟩ u10).heap.size = w.heap.size := by simp
/-- a packet of noughts that lies in a block of the call's own. -/
def Zx (B : Nat) (w : World) : Prop := w.heap[B]? = some (.cells #[.int .i64 0, .int .i64 0, .bool false, .bool false, .int .i64 0, .int .i64 0, .int .i64 0, .int .u32 0, .int .u32 0, .slice none 0 0, .slice none 0 0] 43 (0, 0))
theorem zx_of {w w' : World} (h : Below (w.heap.size + 1) (w.alloc (.cells #[.int .i64 0, .int .i64 0, .bool false, .bool false, .int .i64 0, .int .i64 0, .int .i64 0, .int .u32 0, .int .u32 0, .slice none 0 0, .slice none 0 0] 43)) w') :
    (w'.cell? ⟨w.heap.size, 0, none⟩ = some (.int .i64 0) ∧ w'.cell? ⟨w.heap.size, 1, none⟩ = some (.int .i64 0) ∧ w'.cell? ⟨w.heap.size, 2, none⟩ = some (.bool false) ∧ w'.cell? ⟨w.heap.size, 3, none⟩ = some (.bool false) ∧ w'.cell? ⟨w.heap.size, 4, none⟩ = some (.int .i64 0) ∧ w'.cell? ⟨w.heap.size, 5, none⟩ = some (.int .i64 0) ∧ w'.cell? ⟨w.heap.size, 6, none⟩ = some (.int .i64 0) ∧ w'.cell? ⟨w.heap.size, 7, none⟩ = some (.int .u32 0) ∧ w'.cell? ⟨w.heap.size, 8, none⟩ = some (.int .u32 0) ∧ w'.cell? ⟨w.heap.size, 9, none⟩ = some (.slice none 0 0) ∧ w'.cell? ⟨w.heap.size, 10, none⟩ = some (.slice none 0 0)) ∧
    (∀ o, w'.frozen? ⟨w.heap.size, o, none⟩ = false) := by
  have hc := fun (o : Nat) => Below.cell h (p := ⟨w.heap.size, o, none⟩) (Nat.lt_succ_self _)
  refine ⟨⟨?_, ?_, ?_, ?_, ?_, ?_, ?_, ?_, ?_, ?_, ?_⟩, fun o => ?_⟩
  · refine (hc _).trans ?_; simp [go_sem]
  · refine (hc _).trans ?_; simp [go_sem]
  · refine (hc _).trans ?_; simp [go_sem]
  · refine (hc _).trans ?_; simp [go_sem]
  · refine (hc _).trans ?_; simp [go_sem]
  · refine (hc _).trans ?_; simp [go_sem]
  · refine (hc _).trans ?_; simp [go_sem]
  · refine (hc _).trans ?_; simp [go_sem]
  · refine (hc _).trans ?_; simp [go_sem]
  · refine (hc _).trans ?_; simp [go_sem]
  · refine (hc _).trans ?_; simp [go_sem]
  · refine (Below.frozen h (p := ⟨w.heap.size, o, none⟩) (Nat.lt_succ_self _)).trans ?_; simp [go_sem]

set_option maxRecDepth 100000 in
set_option maxHeartbeats 8000000 in
theorem cread (A : Option Addr) (n c : Nat) (l : List UInt8) (Ab : Option Addr) (nb cb : Nat) (body : List UInt8) (w : World) (hn : l.length = n) (h : Bs w w.heap.size A l) (hn2 : n ≤ 16777216) (h20 : 20 ≤ n) (hnc : n ≤ c) (hc63 : c ≤ 9223372036854775807)
    (hb : body.length = nb) (hB : Bs w w.heap.size Ab body) (hb2 : nb ≤ 16777216) (hbc : nb ≤ cb) (hnil : Ab = none → cb = 0) :
    Calls Try.prog 52 #[.slice A n c, .slice Ab nb cb] w fun e w' => ∃ Ao co Ab' cb', e = .returned (pkV (rdP l body) Ao co Ab' cb') ∧ GivesPk w w' (rdP l body) Ao co Ab' cb' := by
  obtain ⟨ad, rfl, hlt, hcell⟩ := g8_cells h (by omega)
  have c1 : w.cell? ⟨ad.block, ad.off + 1, none⟩ = some (.int .u8 (g8 l 1)) := by have := hcell 1 (by omega); rwa [add_pos ad 1 (by omega)] at this
  have c8 : w.cell? ⟨ad.block, ad.off + 8, none⟩ = some (.int .u8 (g8 l 8)) := by have := hcell 8 (by omega); rwa [add_pos ad 8 (by omega)] at this
  have c9 : w.cell? ⟨ad.block, ad.off + 9, none⟩ = some (.int .u8 (g8 l 9)) := by have := hcell 9 (by omega); rwa [add_pos ad 9 (by omega)] at this
  clear hcell
  have HN := Go.Lib.hid hn
  have HL := Go.Lib.hid h
  have HB := Go.Lib.hid hB
  have HBN := Go.Lib.hid hb
  have HX := Go.Lib.hid hnil
  have a0 := wd_lo l 6
  have a1 := wd_hi l 6
  have m1 := u16_mask13 (wd l 6) a0 a1
  have m2 := u16_b14 (wd l 6) a0 a1
  have m3 := u16_b13 (wd l 6) a0 a1
  have t2 : (wd l 6 / 16384 % 2 * 16384 != 0) = decide (wd l 6 / 16384 % 2 = 1) := by rw [Bool.eq_iff_iff]; simp; omega
  have t3 : (wd l 6 / 8192 % 2 * 8192 != 0) = decide (wd l 6 / 8192 % 2 = 1) := by rw [Bool.eq_iff_iff]; simp; omega
  have s1 := IntWalk.i64_in (wd l 6 % 8192 * 8) (by omega)
  have i1 : (1 : Int) < (n : Int) := by omega
  have i8 : (8 : Int) < (n : Int) := by omega
  have i9 : (9 : Int) < (n : Int) := by omega
  have i20 : (20 : Int) ≤ (n : Int) := by omega
  clear hn h hB hb hnil
  go_enter Try.func52, Try.ntmps52
  go_upto_region 2 with (go_at_call 53; refine (cword (some ad) n c l w.heap.size _ HN.out (HL.out.below ((Below.refl _ _).alloc (Nat.le_refl _) _)) 6 _ rfl (by omega) hn2).mono ?_; rintro e w' ⟨rfl, m, rfl⟩; dsimp only)
  have x0 : Below (w.heap.size + 1) (Zw w) ((Zw w).drewN m) := below_dn (Below.refl _ _) m
  have y0 := Zw.below x0
  generalize (Zw w).drewN m = X0 at *
  have HC : Hid (Bs w w.heap.size (if c = 20 then (some ad : Option Addr) else some { block := ad.block, off := ad.off + 20 }) (l.drop 20)) := Go.Lib.hid ((HL.out).cut 20 c (by rw [HN.out]; exact hnc) (by omega))
  have HCN : Hid ((if c = 20 then (some ad : Option Addr) else some { block := ad.block, off := ad.off + 20 }) = none → c - 20 = 0) := Go.Lib.hid (fun h => by split at h <;> cases h)
  have HDL : Hid ((l.drop 20).length = n - 20) := Go.Lib.hid (by rw [List.length_drop, HN.out])
  have k20 : n - 20 ≤ 16777216 := by omega
  have k21 : n - 20 ≤ c - 20 := by omega
  have r1 := IntWalk.i64_in (g8 l 1) (by have := g8_lo l 1; have := g8_hi l 1; omega)
  have r8 := IntWalk.i64_in (g8 l 8) (by have := g8_lo l 8; have := g8_hi l 8; omega)
  have r9 := IntWalk.i64_in (g8 l 9) (by have := g8_lo l 9; have := g8_hi l 9; omega)
  have r4 := IntWalk.i64_in (wd l 4) (by have := wd_lo l 4; have := wd_hi l 4; omega)
  have r6 := IntWalk.i64_in (wd l 6 % 8192) (by omega)
  go_region_held3 (fun w' => w'.cell? ⟨ad.block, ad.off + 1, none⟩ = some (.int .u8 (g8 l 1)) ∧ w'.cell? ⟨ad.block, ad.off + 8, none⟩ = some (.int .u8 (g8 l 8)) ∧ w'.cell? ⟨ad.block, ad.off + 9, none⟩ = some (.int .u8 (g8 l 9)) ∧ Below w.heap.size w w')
    (exact rdS hlt c1 c8 c9 (by repeat (with_reducible first | assumption | refine below_dn ?_ _ | refine below_drew ?_ | refine below_set ?_ _ _)))
    (first
      | (go_at_call 53; refine (cword4 (some ad) n c l w.heap.size _ HN.out (HL.out.below (by repeat (first | assumption | refine below_dn ?_ _ | refine below_drew ?_))) h20 hn2).mono ?_; rintro e w' ⟨rfl, m, rfl⟩; dsimp only)
      | (go_at_call_of 61 (Value.int IntKind.i64 12); refine (caddr12 (some ad) n c l w.heap.size _ HN.out (HL.out.below (by repeat (first | assumption | refine below_dn ?_ _ | refine below_drew ?_))) h20 hn2).mono ?_; rintro e w' ⟨rfl, m, rfl⟩; dsimp only)
      | (go_at_call_of 61 (Value.int IntKind.i64 16); refine (caddr16 (some ad) n c l w.heap.size _ HN.out (HL.out.below (by repeat (first | assumption | refine below_dn ?_ _ | refine below_drew ?_))) h20 hn2).mono ?_; rintro e w' ⟨rfl, m, rfl⟩; dsimp only)
      | (go_at_call_of 39 (Value.slice Ab nb cb); refine (cclone2 Ab nb cb body w _ HBN.out HB.out hb2 HX.out hbc (by assumption)).mono ?_; rintro e w4 ⟨⟨Ab2, cb2, rfl, hg2⟩, x4⟩; dsimp only; have y4 := Zw.below x4; obtain ⟨⟨z0, z1, z2, z3, z4, z5, z6, z7, z8, z9, z10⟩, zf⟩ := zx_of x4)
      | (go_at_call 39; refine (cclone2 _ (n - 20) (c - 20) (l.drop 20) w _ HDL.out HC.out k20 HCN.out k21 (by repeat (first | assumption | refine below_dn ?_ _ | refine below_drew ?_))).mono ?_; rintro e w3 ⟨⟨Ao2, co2, rfl, hg1⟩, x3⟩; dsimp only; have y3 := Zw.below x3))
  have yF : Below w.heap.size w _ := rdB ‹_ ∧ _›
  have HV : (.agg #[.int .i64 (g8 l 1), .int .i64 (wd l 4), .bool (decide (wd l 6 / 16384 % 2 = 1)), .bool (decide (wd l 6 / 8192 % 2 = 1)), .int .i64 (wd l 6 % 8192 * 8), .int .i64 (g8 l 8), .int .i64 (g8 l 9), .int .u32 (ad4 l 12), .int .u32 (ad4 l 16), .slice Ao2 (n - 20) co2, .slice Ab2 nb cb2] : Value) = pkV (rdP l body) Ao2 co2 Ab2 cb2 := by
    have e1 := HDL.out
    have e2 := HBN.out
    rw [← e1, ← e2]
    rfl
  have HV' := Go.Lib.hid HV
  clear HV
  have HG : Hid (GivesPk w (((((((((((w4.setCell ⟨w.heap.size, 0, none⟩ (.int .i64 (g8 l 1))).setCell ⟨w.heap.size, 1, none⟩ (.int .i64 (wd l 4))).setCell ⟨w.heap.size, 2, none⟩ (.bool (decide (wd l 6 / 16384 % 2 = 1)))).setCell ⟨w.heap.size, 3, none⟩ (.bool (decide (wd l 6 / 8192 % 2 = 1)))).setCell ⟨w.heap.size, 4, none⟩ (.int .i64 (wd l 6 % 8192 * 8))).setCell ⟨w.heap.size, 5, none⟩ (.int .i64 (g8 l 8))).setCell ⟨w.heap.size, 6, none⟩ (.int .i64 (g8 l 9))).setCell ⟨w.heap.size, 7, none⟩ (.int .u32 (ad4 l 12))).setCell ⟨w.heap.size, 8, none⟩ (.int .u32 (ad4 l 16))).setCell ⟨w.heap.size, 9, none⟩ (.slice Ao2 (n - 20) co2)).setCell ⟨w.heap.size, 10, none⟩ (.slice Ab2 nb cb2)) (rdP l body) Ao2 co2 Ab2 cb2) := by
    have s3 := Zw.size x3
    have s4 := hg2.below.size
    have f1 : ∀ ad, Ao2 = some ad → w.heap.size ≠ ad.block := fun ad e => by have h1 := hg1.fresh ad e; have h2 : w.heap.size + 1 ≤ X0.heap.size := Zw.size x0; have h3 : X0.heap.size ≤ ad.block := h1; omega
    have f2 : ∀ ad, Ab2 = some ad → w.heap.size ≠ ad.block := fun ad e => by have := hg2.fresh ad e; omega
    have hso := (hg1.bs.below hg2.below).more s4
    refine ⟨hg1.len, hg1.cap, hg1.nil, ?_, fun ad e => by have h1 := hg1.fresh ad e; have h2 : w.heap.size + 1 ≤ X0.heap.size := Zw.size x0; have h3 : X0.heap.size ≤ ad.block := h1; omega, hg2.len, hg2.cap, hg2.nil, ?_, fun ad e => by have := hg2.fresh ad e; omega, yF⟩
    · have q := ((((((((((hso.far ⟨w.heap.size, 0, none⟩ (.int .i64 (g8 l 1)) f1).far ⟨w.heap.size, 1, none⟩ (.int .i64 (wd l 4)) f1).far ⟨w.heap.size, 2, none⟩ (.bool (decide (wd l 6 / 16384 % 2 = 1))) f1).far ⟨w.heap.size, 3, none⟩ (.bool (decide (wd l 6 / 8192 % 2 = 1))) f1).far ⟨w.heap.size, 4, none⟩ (.int .i64 (wd l 6 % 8192 * 8)) f1).far ⟨w.heap.size, 5, none⟩ (.int .i64 (g8 l 8)) f1).far ⟨w.heap.size, 6, none⟩ (.int .i64 (g8 l 9)) f1).far ⟨w.heap.size, 7, none⟩ (.int .u32 (ad4 l 12)) f1).far ⟨w.heap.size, 8, none⟩ (.int .u32 (ad4 l 16)) f1).far ⟨w.heap.size, 9, none⟩ (.slice Ao2 (n - 20) co2) f1).far ⟨w.heap.size, 10, none⟩ (.slice Ab2 nb cb2) f1
      exact q.more (by simp)
    · have q := ((((((((((hg2.bs.far ⟨w.heap.size, 0, none⟩ (.int .i64 (g8 l 1)) f2).far ⟨w.heap.size, 1, none⟩ (.int .i64 (wd l 4)) f2).far ⟨w.heap.size, 2, none⟩ (.bool (decide (wd l 6 / 16384 % 2 = 1))) f2).far ⟨w.heap.size, 3, none⟩ (.bool (decide (wd l 6 / 8192 % 2 = 1))) f2).far ⟨w.heap.size, 4, none⟩ (.int .i64 (wd l 6 % 8192 * 8)) f2).far ⟨w.heap.size, 5, none⟩ (.int .i64 (g8 l 8)) f2).far ⟨w.heap.size, 6, none⟩ (.int .i64 (g8 l 9)) f2).far ⟨w.heap.size, 7, none⟩ (.int .u32 (ad4 l 12)) f2).far ⟨w.heap.size, 8, none⟩ (.int .u32 (ad4 l 16)) f2).far ⟨w.heap.size, 9, none⟩ (.slice Ao2 (n - 20) co2) f2).far ⟨w.heap.size, 10, none⟩ (.slice Ab2 nb cb2) f2
      exact q.more (by simp)
  clear hg1 hg2 yF x3 x4 y3 y4
  go_wp2
  all_goals
    refine bodyPost_ret (v := pkV (rdP l body) Ao2 co2 Ab2 cb2) ?_ rfl ⟨Ao2, co2, Ab2, cb2, rfl, HG.out⟩
    rw [← HV'.out]
    simp [results, Try.results52, go_sem, z0, z1, z2, z3, z4, z5, z6, z7, z8, z9, z10]
end Go.Proofs.Ytndhiopfkgdhcaa
