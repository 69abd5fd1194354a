/- A wheel as a heap in a struct, its places in a map: Pop, Push. -/
import Derived.Test.YtebmomanpkmloaaWheelG2
namespace Go.Proofs.Ytebmomanpkmloaa
open Go.ChangeShapes Go.WideShapes Go.ChangeAt Go.RowKit
set_option linter.unusedVariables false
set_option linter.unusedSimpArgs false

theorem info_slg : (Try.prog.info? 54).map (·.size) = some 1 := by kernel_rfl
theorem info_algz : (Try.prog.info? 67).map (fun i => (i.zero, i.size, i.bytes)) = some (some (.agg #[.int .i64 0, .int .i64 0]), 2, 16) := by kernel_rfl
/-- the last one is taken from the list, but its place stands still. -/
structure GRp (w : World) (g : Nat) (l : List Al) (n : Nat) (now : Int) (F : Nat → Prop) (A : Option Addr) (c mb : Nat) : Prop where
  box : Bxo w g 59 [.slice A n c, .map (some mb), .int .i64 now]
  row : w.ownsRow 0 67 2 (.slice A n c) n ((l.take n).flatMap Al.L)
  map : PmAt w mb (findH l) (n + 1)
  len : l.length = n + 1
  o : GRo g l F A mb
/-- an alarm in an interface. -/
def anyA (a : Al) : Value := .iface 67 (.agg #[.int .i64 a.num, .int .i64 a.at_])
/-- a row's last one is taken off. -/
theorem own_cut {w : World} {l : List Al} {r n c : Nat} (h : w.ownsRow 0 67 2 (.slice (some ⟨r, 0, none⟩) (n + 1) c) (n + 1) (l.flatMap Al.L)) : w.ownsRow 0 67 2 (.slice (some ⟨r, 0, none⟩) n c) n ((l.take n).flatMap Al.L) := by
  obtain ⟨cur, k1, k2, k3, k4, k5, k6, k7⟩ := own_open h
  refine own_shut k1 k2 ?_ k4 (by omega) k6 ?_
  · rw [← flat_take Al.L 2 Al.len, ← k3, List.take_take, Nat.min_eq_left (by omega)]
  · rw [← flat_take Al.L 2 Al.len, List.length_take, k7, Nat.min_eq_left (by omega)]
set_option maxRecDepth 100000 in
set_option maxHeartbeats 8000000 in
theorem gpop {w : World} {g : Nat} {l : List Al} {now : Int} {F : Nat → Prop} {A : Option Addr} {c mb : Nat} (h : GR w g l now F A c mb) (n : Nat) (v : Value) (hn : l.length = n + 1) (hv : anyA (atA l n) = v) :
    Calls Try.prog 48 #[.pointer (some ⟨g, 0, none⟩)] w fun e w' => e = .returned v ∧ GRp w' g l n now F A c mb ∧ Moves w w' F := by
  have hl : n < l.length := by omega
  obtain ⟨r, rfl, hr, hci⟩ := h.cell hl
  have hnc := (own_cap h.row).1
  have hsz := h.size
  have hgm := h.g1
  have hrg : r ≠ g := some_ne h.g2
  have hrm : r ≠ mb := some_ne h.g3
  have HF : Hid (F g ∧ F mb) := Go.Lib.hid ⟨(h.blocks g).2 (.inl rfl), (h.blocks mb).2 (.inr (.inl rfl))⟩
  have HGR := Go.Lib.hid h.o
  have HL := Go.Lib.hid hn
  have hb0 := h.box
  have hr0 := h.row
  have hp0 := h.map
  rw [hn] at hb0 hr0 hp0 hnc hsz
  have HB := Go.Lib.hid hb0
  have HR := Go.Lib.hid (own_cut hr0)
  have HP := Go.Lib.hid hp0
  obtain ⟨x, hx⟩ : ∃ x, atA l n = x := ⟨_, rfl⟩
  rw [hx] at hci hv
  have HX := Go.Lib.hid (hci w rfl)
  have hvx : v = .iface 67 (.agg #[.int .i64 x.num, .int .i64 x.at_]) := hv.symm
  subst hvx
  have y1 : Below w.heap.size w (w.alloc (.cells #[.int .i64 x.num, .int .i64 x.at_] 67)) := (Below.refl _ _).alloc (Nat.le_refl _) _
  have hbx := Bxo.made w 67 (alL x)
  have c0 := HB.out.cell 0 rfl
  have n0 : IntKind.i64.wrap ((n : Int) + 1 - 1) = (n : Nat) := by rw [IntWalk.i64_in _ (by omega)]; omega
  have n1 : (0 : Int) ≤ (n : Int) := by omega
  have n2 : (n : Int) < (n : Int) + 1 := by omega
  have n3 : (n : Int) ≤ (c : Int) := by omega
  clear h hci hv hb0 hr0 hp0 hn hx
  go_enter Try.func48, Try.ntmps48
  go_upto_region 3 with (refine wpList_load_at rfl 67 _ rfl ⟨r, n * 2, none⟩ rfl (alL x) _ HX.out Try.underlying67 rfl info_alg ?_)
  have hgl := HB.out.lt
  have hml := HP.out.lt
  have HB1 := Go.Lib.hid (HB.out.keep y1 hgl)
  have HR1 := Go.Lib.hid (own_keep (w' := w.alloc (.cells #[.int .i64 x.num, .int .i64 x.at_] 67)) HR.out (y1.block r hr))
  have HP1 := Go.Lib.hid (HP.out.keep (y1.block mb hml))
  have hs1 : (w.alloc (.cells #[.int .i64 x.num, .int .i64 x.at_] 67)).heap.size = w.heap.size + 1 := by simp
  clear c0
  generalize w.alloc (.cells #[.int .i64 x.num, .int .i64 x.at_] 67) = w1 at *
  have c0 := HB1.out.cell 0 rfl
  go_upto_region 4 with (refine wpList_store_any rfl 54 _ _ rfl g 0 59 _ [.slice (some ⟨r, 0, none⟩) n c] _ rfl rfl rfl HB1.out info_slg (by show 0 + 1 ≤ 3; omega) (by simp [Value.oneCell']) ?_; intro w2 hb2 ho2; have HG2 : Hid (Bxo w2 g 59 [.slice (some ⟨r, 0, none⟩) n c, .map (some mb), .int .i64 now]) := Go.Lib.hid hb2; have HO2 := Go.Lib.hid ho2; clear hb2 ho2)
  have hs2 := HO2.out.size
  have HX2 := Go.Lib.hid ((show Bxo w1 w.heap.size 67 (alL x) from hbx).only HO2.out (by omega))
  have HR2 := Go.Lib.hid (own_keep (w' := w2) HR1.out (HO2.out.block r hrg))
  have HP2 := Go.Lib.hid (HP1.out.keep (HO2.out.block mb (Ne.symm hgm)))
  clear hbx c0
  go_wp2_with (refine wpList_load_box rfl 67 _ rfl w.heap.size rfl (alL x) _ HX2.out Try.underlying67 rfl info_alg ?_)
  go_ret
  exact ⟨rfl, ⟨HG2.out, HR2.out, HP2.out, HL.out, HGR.out⟩, (moves_below y1).trans (gro_moves (F := F) HO2.out.gro HF.out.1)⟩
end Go.Proofs.Ytebmomanpkmloaa
