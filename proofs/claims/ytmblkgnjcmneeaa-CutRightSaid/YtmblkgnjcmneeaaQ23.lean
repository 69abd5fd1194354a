/- Lemmas, several texts in one. -/
import Derived.Test.YtmblkgnjcmneeaaQ05
import Derived.Test.YtmblkgnjcmneeaaQ22
import Derived.Test.YtmblkgnjcmneeaaQ01
/- The contract of the document's own Same for package ip. -/
namespace Go.Proofs.Ytmblkgnjcmneeaa
open Go.ChangeShapes Go.WideShapes Go.ChangeAt Go.RowKit
set_option linter.unusedVariables false

theorem two_of {k0 k1 k2 k3 k4 k5 k6 k7 k8 k9 k10 k11 k12 k13 k14 k15 k16 k17 k18 k19 k20 k21 : Prop} {B : Nat} {a w' : World} (h : k0 ∧ k1 ∧ k2 ∧ k3 ∧ k4 ∧ k5 ∧ k6 ∧ k7 ∧ k8 ∧ k9 ∧ k10 ∧ k11 ∧ k12 ∧ k13 ∧ k14 ∧ k15 ∧ k16 ∧ k17 ∧ k18 ∧ k19 ∧ k20 ∧ k21 ∧ Below B a w') : Below B a w' := h.2.2.2.2.2.2.2.2.2.2.2.2.2.2.2.2.2.2.2.2.2.2
theorem two_all {p : Pk} {Ao : Option Addr} {co : Nat} {Ab : Option Addr} {cb : Nat} {Ao' : Option Addr} {co' : Nat} {Ab' : Option Addr} {cb' : Nat} {w w' : World} (x : Below (w.heap.size + 2) ((w.alloc (.cells #[.int .i64 p.tos, .int .i64 p.id, .bool p.df, .bool p.mf, .int .i64 p.off, .int .i64 p.ttl, .int .i64 p.proto, .int .u32 p.src, .int .u32 p.dst, .slice Ao p.opts.length co, .slice Ab p.body.length cb] 25)).alloc (.cells #[.int .i64 p.tos, .int .i64 p.id, .bool p.df, .bool p.mf, .int .i64 p.off, .int .i64 p.ttl, .int .i64 p.proto, .int .u32 p.src, .int .u32 p.dst, .slice Ao' p.opts.length co', .slice Ab' p.body.length cb'] 25)) w') :
    w'.cell? ⟨w.heap.size, 0, none⟩ = some (.int .i64 p.tos) ∧ w'.cell? ⟨w.heap.size, 1, none⟩ = some (.int .i64 p.id) ∧ w'.cell? ⟨w.heap.size, 2, none⟩ = some (.bool p.df) ∧ w'.cell? ⟨w.heap.size, 3, none⟩ = some (.bool p.mf) ∧ w'.cell? ⟨w.heap.size, 4, none⟩ = some (.int .i64 p.off) ∧ w'.cell? ⟨w.heap.size, 5, none⟩ = some (.int .i64 p.ttl) ∧ w'.cell? ⟨w.heap.size, 6, none⟩ = some (.int .i64 p.proto) ∧ w'.cell? ⟨w.heap.size, 7, none⟩ = some (.int .u32 p.src) ∧ w'.cell? ⟨w.heap.size, 8, none⟩ = some (.int .u32 p.dst) ∧ w'.cell? ⟨w.heap.size, 9, none⟩ = some (.slice Ao p.opts.length co) ∧ w'.cell? ⟨w.heap.size, 10, none⟩ = some (.slice Ab p.body.length cb) ∧ w'.cell? ⟨w.heap.size + 1, 0, none⟩ = some (.int .i64 p.tos) ∧ w'.cell? ⟨w.heap.size + 1, 1, none⟩ = some (.int .i64 p.id) ∧ w'.cell? ⟨w.heap.size + 1, 2, none⟩ = some (.bool p.df) ∧ w'.cell? ⟨w.heap.size + 1, 3, none⟩ = some (.bool p.mf) ∧ w'.cell? ⟨w.heap.size + 1, 4, none⟩ = some (.int .i64 p.off) ∧ w'.cell? ⟨w.heap.size + 1, 5, none⟩ = some (.int .i64 p.ttl) ∧ w'.cell? ⟨w.heap.size + 1, 6, none⟩ = some (.int .i64 p.proto) ∧ w'.cell? ⟨w.heap.size + 1, 7, none⟩ = some (.int .u32 p.src) ∧ w'.cell? ⟨w.heap.size + 1, 8, none⟩ = some (.int .u32 p.dst) ∧ w'.cell? ⟨w.heap.size + 1, 9, none⟩ = some (.slice Ao' p.opts.length co') ∧ w'.cell? ⟨w.heap.size + 1, 10, none⟩ = some (.slice Ab' p.body.length cb') ∧ Below (w.heap.size + 2) ((w.alloc (.cells #[.int .i64 p.tos, .int .i64 p.id, .bool p.df, .bool p.mf, .int .i64 p.off, .int .i64 p.ttl, .int .i64 p.proto, .int .u32 p.src, .int .u32 p.dst, .slice Ao p.opts.length co, .slice Ab p.body.length cb] 25)).alloc (.cells #[.int .i64 p.tos, .int .i64 p.id, .bool p.df, .bool p.mf, .int .i64 p.off, .int .i64 p.ttl, .int .i64 p.proto, .int .u32 p.src, .int .u32 p.dst, .slice Ao' p.opts.length co', .slice Ab' p.body.length cb'] 25)) w' := by
  have h1 := fun (o : Nat) => x.cell (p := ⟨w.heap.size, o, none⟩) (by show w.heap.size < w.heap.size + 2; omega)
  have h2 := fun (o : Nat) => x.cell (p := ⟨w.heap.size + 1, o, none⟩) (by show w.heap.size + 1 < w.heap.size + 2; omega)
  refine ⟨?_, ?_, ?_, ?_, ?_, ?_, ?_, ?_, ?_, ?_, ?_, ?_, ?_, ?_, ?_, ?_, ?_, ?_, ?_, ?_, ?_, ?_, x⟩
  · refine (h1 0).trans ?_; simp [go_sem]
  · refine (h1 1).trans ?_; simp [go_sem]
  · refine (h1 2).trans ?_; simp [go_sem]
  · refine (h1 3).trans ?_; simp [go_sem]
  · refine (h1 4).trans ?_; simp [go_sem]
  · refine (h1 5).trans ?_; simp [go_sem]
  · refine (h1 6).trans ?_; simp [go_sem]
  · refine (h1 7).trans ?_; simp [go_sem]
  · refine (h1 8).trans ?_; simp [go_sem]
  · refine (h1 9).trans ?_; simp [go_sem]
  · refine (h1 10).trans ?_; simp [go_sem]
  · refine (h2 0).trans ?_; simp [go_sem]
  · refine (h2 1).trans ?_; simp [go_sem]
  · refine (h2 2).trans ?_; simp [go_sem]
  · refine (h2 3).trans ?_; simp [go_sem]
  · refine (h2 4).trans ?_; simp [go_sem]
  · refine (h2 5).trans ?_; simp [go_sem]
  · refine (h2 6).trans ?_; simp [go_sem]
  · refine (h2 7).trans ?_; simp [go_sem]
  · refine (h2 8).trans ?_; simp [go_sem]
  · refine (h2 9).trans ?_; simp [go_sem]
  · refine (h2 10).trans ?_; simp [go_sem]
theorem rhead2 (p : Pk) (Ao : Option Addr) (co : Nat) (Ab : Option Addr) (cb : Nat) (w : World) {B : Nat} {a X : World} (x : Below B a X) (hB : B ≤ X.heap.size) (hM : MayH p) (hs0 : 0 ≤ p.src) (hs1 : p.src ≤ 4294967295) (hd0 : 0 ≤ p.dst) (hd1 : p.dst ≤ 4294967295)
    (hAo : Bs w w.heap.size Ao p.opts) (hx : Below w.heap.size w X) (hnil : Ao = none → co = 0) :
    Calls Try.prog 22 #[pkV p Ao co Ab cb, .int .i64 0] X fun e w' => (∃ g c, e = .returned (.slice (some ⟨g, 0, none⟩) (20 + p.opts.length) c) ∧ Own w' X.heap.size g (20 + p.opts.length) c (hd p 0)) ∧ Below X.heap.size X w' ∧ Below B a w' :=
  (rheadH p Ao co Ab cb 0 X hM (by omega) (by omega) hs0 hs1 hd0 hd1 ((hAo.below hx).more hx.size) hnil).mono fun e w' ⟨g, c, he, ho, hb⟩ => ⟨⟨g, c, he, ho⟩, hb, x.trans (hb.mono hB)⟩

set_option maxRecDepth 100000 in
set_option maxHeartbeats 2000000 in
theorem rsameH (p : Pk) (Ao : Option Addr) (co : Nat) (Ab : Option Addr) (cb : Nat) (Ao' : Option Addr) (co' : Nat) (Ab' : Option Addr) (cb' : Nat) (w : World) (hM : MayH p) (hs0 : 0 ≤ p.src) (hs1 : p.src ≤ 4294967295) (hd0 : 0 ≤ p.dst) (hd1 : p.dst ≤ 4294967295)
    (ho : Bs w w.heap.size Ao p.opts) (hno : Ao = none → co = 0) (hb : Bs w w.heap.size Ab p.body) (ho' : Bs w w.heap.size Ao' p.opts) (hno' : Ao' = none → co' = 0) (hb' : Bs w w.heap.size Ab' p.body) :
    Calls Try.prog 12 #[pkV p Ao co Ab cb, pkV p Ao' co' Ab' cb'] w fun e w' => e = .returned (.bool true) ∧ Below w.heap.size w w' := by
  have H1 := Go.Lib.hid ho
  have H2 := Go.Lib.hid hb
  have H3 := Go.Lib.hid ho'
  have H4 := Go.Lib.hid hb'
  have HM := Go.Lib.hid hM
  have HN := Go.Lib.hid hno
  have HN' := Go.Lib.hid hno'
  have l1 : p.opts.length ≤ 16777216 := by have := hM.p40; omega
  have l2 : p.body.length ≤ 16777216 := by have := hM.whole; omega
  have l3 : 20 + p.opts.length ≤ 16777216 := by have := hM.p40; omega
  have HS : Hid ((hd p 0 == hd p 0) = true) := Go.Lib.hid (by simp)
  have HSo : Hid ((p.opts == p.opts) = true) := Go.Lib.hid (by simp)
  have HSb : Hid ((p.body == p.body) = true) := Go.Lib.hid (by simp)
  clear ho hb ho' hb' hM hno hno'
  go_enter Try.func12, Try.ntmps12
  go_upto_region 1 with fail
  have x0 : Below (w.heap.size + 2) ((w.alloc (.cells #[.int .i64 p.tos, .int .i64 p.id, .bool p.df, .bool p.mf, .int .i64 p.off, .int .i64 p.ttl, .int .i64 p.proto, .int .u32 p.src, .int .u32 p.dst, .slice Ao p.opts.length co, .slice Ab p.body.length cb] 25)).alloc (.cells #[.int .i64 p.tos, .int .i64 p.id, .bool p.df, .bool p.mf, .int .i64 p.off, .int .i64 p.ttl, .int .i64 p.proto, .int .u32 p.src, .int .u32 p.dst, .slice Ao' p.opts.length co', .slice Ab' p.body.length cb'] 25)) ((w.alloc (.cells #[.int .i64 p.tos, .int .i64 p.id, .bool p.df, .bool p.mf, .int .i64 p.off, .int .i64 p.ttl, .int .i64 p.proto, .int .u32 p.src, .int .u32 p.dst, .slice Ao p.opts.length co, .slice Ab p.body.length cb] 25)).alloc (.cells #[.int .i64 p.tos, .int .i64 p.id, .bool p.df, .bool p.mf, .int .i64 p.off, .int .i64 p.ttl, .int .i64 p.proto, .int .u32 p.src, .int .u32 p.dst, .slice Ao' p.opts.length co', .slice Ab' p.body.length cb'] 25)) := Below.refl _ _
  have low : ∀ X, Below (w.heap.size + 2) ((w.alloc (.cells #[.int .i64 p.tos, .int .i64 p.id, .bool p.df, .bool p.mf, .int .i64 p.off, .int .i64 p.ttl, .int .i64 p.proto, .int .u32 p.src, .int .u32 p.dst, .slice Ao p.opts.length co, .slice Ab p.body.length cb] 25)).alloc (.cells #[.int .i64 p.tos, .int .i64 p.id, .bool p.df, .bool p.mf, .int .i64 p.off, .int .i64 p.ttl, .int .i64 p.proto, .int .u32 p.src, .int .u32 p.dst, .slice Ao' p.opts.length co', .slice Ab' p.body.length cb'] 25)) X → Below w.heap.size w X ∧ w.heap.size + 2 ≤ X.heap.size := fun X x => ⟨(((Below.refl _ _).alloc (Nat.le_refl _) _).alloc (by simp) _).trans (x.mono (by omega)), by have := x.size; simp at this; omega⟩
  simp only [List.append_eq, List.cons_append, List.nil_append]
  go_region_held3 (fun w' => w'.cell? ⟨w.heap.size, 0, none⟩ = some (.int .i64 p.tos) ∧ w'.cell? ⟨w.heap.size, 1, none⟩ = some (.int .i64 p.id) ∧ w'.cell? ⟨w.heap.size, 2, none⟩ = some (.bool p.df) ∧ w'.cell? ⟨w.heap.size, 3, none⟩ = some (.bool p.mf) ∧ w'.cell? ⟨w.heap.size, 4, none⟩ = some (.int .i64 p.off) ∧ w'.cell? ⟨w.heap.size, 5, none⟩ = some (.int .i64 p.ttl) ∧ w'.cell? ⟨w.heap.size, 6, none⟩ = some (.int .i64 p.proto) ∧ w'.cell? ⟨w.heap.size, 7, none⟩ = some (.int .u32 p.src) ∧ w'.cell? ⟨w.heap.size, 8, none⟩ = some (.int .u32 p.dst) ∧ w'.cell? ⟨w.heap.size, 9, none⟩ = some (.slice Ao p.opts.length co) ∧ w'.cell? ⟨w.heap.size, 10, none⟩ = some (.slice Ab p.body.length cb) ∧ w'.cell? ⟨w.heap.size + 1, 0, none⟩ = some (.int .i64 p.tos) ∧ w'.cell? ⟨w.heap.size + 1, 1, none⟩ = some (.int .i64 p.id) ∧ w'.cell? ⟨w.heap.size + 1, 2, none⟩ = some (.bool p.df) ∧ w'.cell? ⟨w.heap.size + 1, 3, none⟩ = some (.bool p.mf) ∧ w'.cell? ⟨w.heap.size + 1, 4, none⟩ = some (.int .i64 p.off) ∧ w'.cell? ⟨w.heap.size + 1, 5, none⟩ = some (.int .i64 p.ttl) ∧ w'.cell? ⟨w.heap.size + 1, 6, none⟩ = some (.int .i64 p.proto) ∧ w'.cell? ⟨w.heap.size + 1, 7, none⟩ = some (.int .u32 p.src) ∧ w'.cell? ⟨w.heap.size + 1, 8, none⟩ = some (.int .u32 p.dst) ∧ w'.cell? ⟨w.heap.size + 1, 9, none⟩ = some (.slice Ao' p.opts.length co') ∧ w'.cell? ⟨w.heap.size + 1, 10, none⟩ = some (.slice Ab' p.body.length cb') ∧ Below (w.heap.size + 2) ((w.alloc (.cells #[.int .i64 p.tos, .int .i64 p.id, .bool p.df, .bool p.mf, .int .i64 p.off, .int .i64 p.ttl, .int .i64 p.proto, .int .u32 p.src, .int .u32 p.dst, .slice Ao p.opts.length co, .slice Ab p.body.length cb] 25)).alloc (.cells #[.int .i64 p.tos, .int .i64 p.id, .bool p.df, .bool p.mf, .int .i64 p.off, .int .i64 p.ttl, .int .i64 p.proto, .int .u32 p.src, .int .u32 p.dst, .slice Ao' p.opts.length co', .slice Ab' p.body.length cb'] 25)) w')
    (exact two_all (by repeat (with_reducible first | assumption | exact below_drew x0 | refine below_dn ?_ _)))
    (first
      | (go_at_call_of 22 (Value.slice Ao p.opts.length co); have hx := two_of (by assumption); obtain ⟨u1, u2⟩ := low _ hx; refine (rhead2 p Ao co Ab cb w hx u2 HM.out hs0 hs1 hd0 hd1 H1.out u1 HN.out).mono ?_; rintro e w1 ⟨⟨g1, c1, rfl, hown1⟩, hb1, x1⟩; dsimp only)
      | (go_at_call_of 22 (Value.slice Ao' p.opts.length co'); obtain ⟨u3, u4⟩ := low _ x1; refine (rhead2 p Ao' co' Ab' cb' w x1 u4 HM.out hs0 hs1 hd0 hd1 H3.out u3 HN'.out).mono ?_; rintro e w2 ⟨⟨g2, c2, rfl, hown2⟩, hb2, x2⟩; dsimp only)
      | (go_at_call_of 15 (Value.slice Ao p.opts.length co); refine (rsame_d Ao _ co p.opts Ao' _ co' p.opts _ _ _ rfl rfl (H1.out.below (low _ (by repeat (with_reducible first | assumption | refine below_dn ?_ _))).1) (H3.out.below (low _ (by repeat (with_reducible first | assumption | refine below_dn ?_ _))).1) l1 l1 true HSo.out).mono ?_; rintro e w3 ⟨rfl, m2, rfl⟩; dsimp only)
      | (go_at_call_of 15 (Value.slice Ab p.body.length cb); refine (rsame_d Ab _ cb p.body Ab' _ cb' p.body _ _ _ rfl rfl (H2.out.below (low _ (by repeat (with_reducible first | assumption | refine below_dn ?_ _))).1) (H4.out.below (low _ (by repeat (with_reducible first | assumption | refine below_dn ?_ _))).1) l2 l2 true HSb.out).mono ?_; rintro e w3 ⟨rfl, m3, rfl⟩; dsimp only)
      | (go_at_call 15; refine (rsame_d (some ⟨g1, 0, none⟩) _ c1 (hd p 0) (some ⟨g2, 0, none⟩) _ c2 (hd p 0) _ _ _ hown1.len hown2.len (hown1.bs.below hb2) hown2.bs l3 l3 true HS.out).mono ?_; rintro e w3 ⟨rfl, m1, rfl⟩; dsimp only))
  all_goals
    have xF := (low _ (two_of (by assumption))).1
    clear x0 low x1 x2 hb1 hb2 hown1 hown2
    go_wp2
    go_ret
    exact ⟨rfl, xF⟩
theorem rsameP (p : Pk) (Ao : Option Addr) (co : Nat) (Ab : Option Addr) (cb : Nat) (Ao' : Option Addr) (co' : Nat) (Ab' : Option Addr) (cb' : Nat) (w : World) (hM : May p) (hs0 : 0 ≤ p.src) (hs1 : p.src ≤ 4294967295) (hd0 : 0 ≤ p.dst) (hd1 : p.dst ≤ 4294967295)
    (ho : Bs w w.heap.size Ao p.opts) (hno : Ao = none → co = 0) (hb : Bs w w.heap.size Ab p.body) (ho' : Bs w w.heap.size Ao' p.opts) (hno' : Ao' = none → co' = 0) (hb' : Bs w w.heap.size Ab' p.body) :
    Calls Try.prog 12 #[pkV p Ao co Ab cb, pkV p Ao' co' Ab' cb'] w fun e w' => e = .returned (.bool true) ∧ Below w.heap.size w w' :=
  rsameH p Ao co Ab cb Ao' co' Ab' cb' w hM.h hs0 hs1 hd0 hd1 ho hno hb ho' hno' hb'
end Go.Proofs.Ytmblkgnjcmneeaa
