/- The contract of package udp's putHead. -/
import Derived.Test.YthikllbfkagdnaaUdpA3
namespace Go.Proofs.Ythikllbfkagdnaa
open Go.ChangeShapes Go.WideShapes Go.ChangeAt Go.RowKit
set_option linter.unusedVariables false
set_option linter.unusedSimpArgs false

/-- the eight bytes of a head whose check sum is not yet put. -/
def hd8U (u : Ud) : List UInt8 := [b8 (u.sport / 256), b8 (u.sport % 256), b8 (u.dport / 256), b8 (u.dport % 256), b8 ((8 + (u.body.length : Int)) / 256), b8 ((8 + (u.body.length : Int)) % 256), 0, 0]
theorem udB_hd (u : Ud) : udB u 0 = hd8U u ++ u.body := rfl
theorem sets_ud (x0 x1 x2 x3 x4 x5 : UInt8) : ((((((List.replicate 8 (0 : UInt8)).set 0 x0).set (0 + 1) x1).set 2 x2).set (2 + 1) x3).set 4 x4).set (4 + 1) x5 = [x0, x1, x2, x3, x4, x5, 0, 0] := rfl

set_option maxRecDepth 100000 in
set_option maxHeartbeats 4000000 in
theorem uputHead (u : Ud) (Ab : Option Addr) (cb : Nat) (w : World) (hM : MayU u) :
    Calls Try.prog 20 #[udV u Ab cb] w fun e w' => ∃ g c, e = .returned (.slice (some ⟨g, 0, none⟩) 8 c) ∧ Own w' w.heap.size g 8 c (hd8U u) ∧ Below w.heap.size w w' := by
  obtain ⟨i0, hi, hz0, hz1, hz2⟩ := info_parts info_byte
  obtain ⟨s0, s1, d0, d1, fit⟩ := hM
  obtain ⟨c, hc⟩ : ∃ c : Nat, 8 + u.body.length = c := ⟨_, rfl⟩
  have HC := Go.Lib.hid hc
  have hc' : (8 : Int) + (u.body.length : Int) = (c : Int) := by omega
  have HCI := Go.Lib.hid hc'
  have hc8 : 8 ≤ c := by omega
  have hc65 : c ≤ 65535 := by omega
  have hl16 : u.body.length ≤ 16777216 := by omega
  have hmk : ∀ W : World, (Instr.makeSlice 23 (.int .i64 8) (.int .i64 (c : Int))).run Try.prog W = .ok (.slice (some ⟨W.heap.size, 0, none⟩) 8 c) (W.alloc (.cells (madeCells #[.int .u8 0] c) 5)) := by
    intro W
    have := run_make (P := Try.prog) W 23 5 i0 (.int .u8 0) Try.underlying23 hi hz0 .i64 .i64 8 c (by omega) (by omega) (by rw [hz2]; omega) (by omega)
    simpa [hz1, Value.cells] using this
  have m0 := udIs.made (w := w) (u := u) (A_body := Ab) (c_body := cb)
  have b0 : Below w.heap.size w (w.alloc (.cells #[.int .i64 u.sport, .int .i64 u.dport, .bool u.nosum, .slice Ab u.body.length cb] 25)) := (Below.refl _ _).alloc (Nat.le_refl _) _
  have sz : w.heap.size + 1 ≤ (w.alloc (.cells #[.int .i64 u.sport, .int .i64 u.dport, .bool u.nosum, .slice Ab u.body.length cb] 25)).heap.size := by simp
  clear hc hc' fit
  go_enter Try.func20, Try.ntmps20
  go_upto_region 1 with fail
  generalize w.alloc (.cells #[.int .i64 u.sport, .int .i64 u.dport, .bool u.nosum, .slice Ab u.body.length cb] 25) = W at *
  have M0 := Go.Lib.hid m0
  have K : ∀ Y, Below (w.heap.size + 1) W Y → Y.cell? ⟨w.heap.size, 0, none⟩ = some (.int .i64 u.sport) ∧ Y.cell? ⟨w.heap.size, 1, none⟩ = some (.int .i64 u.dport) ∧ Y.cell? ⟨w.heap.size, 2, none⟩ = some (.bool u.nosum) ∧ Y.cell? ⟨w.heap.size, 3, none⟩ = some (.slice Ab u.body.length cb) := fun Y y => (M0.out.keep y (Nat.lt_succ_self _)).cells
  obtain ⟨c0, c1, c2, c3⟩ := m0.cells
  clear m0
  go_wp2_with fail
  refine (usizeOf u Ab cb W c HC.out hl16).mono ?_
  rintro e w1 ⟨rfl, hb1⟩
  dsimp only
  have x1 : Below (w.heap.size + 1) W w1 := hb1.mono sz
  clear hb1 c0 c1 c2 c3
  go_upto_region 3 with fail
  have zz : w.heap.size + 1 ≤ w1.heap.size := Nat.le_trans sz x1.size
  have o1 := own_made w1 (w.heap.size + 1) 8 c zz hc8 (by unfold maxLen; omega)
  have x2 := x1.trans ((Below.refl _ _).alloc zz (.cells (madeCells #[.int .u8 0] c) 5))
  clear x1 hmk zz
  generalize w1.alloc (.cells (madeCells #[.int .u8 0] c) 5) = w2 at *
  generalize w1.heap.size = g at *
  obtain ⟨kk, _, _, _⟩ := K _ x2
  have y1 := IntWalk.u16_in u.sport (by omega)
  go_wp2_with fail
  refine (uputWord w2 (w.heap.size + 1) g 8 c _ o1 0 _ rfl (by omega) (by omega) u.sport (by omega) (by omega)).mono ?_
  rintro e w3 ⟨rfl, o2, b2⟩
  dsimp only
  have x3 := x2.trans b2
  clear y1 o1 x2 b2 kk
  obtain ⟨_, kk, _, _⟩ := K _ x3
  have y1 := IntWalk.u16_in u.dport (by omega)
  go_wp2_with fail
  refine (uputWord w3 (w.heap.size + 1) g 8 c _ o2 2 _ rfl (by omega) (by omega) u.dport (by omega) (by omega)).mono ?_
  rintro e w4 ⟨rfl, o3, b3⟩
  dsimp only
  have x4 := x3.trans b3
  clear y1 o2 x3 b3 kk
  have y1 := IntWalk.u16_in (c : Int) (by omega)
  go_wp2_with fail
  refine (uputWord w4 (w.heap.size + 1) g 8 c _ o3 4 _ rfl (by omega) (by omega) (c : Int) (by omega) (by omega)).mono ?_
  rintro e w5 ⟨rfl, o4, b4⟩
  dsimp only
  have x5 := x4.trans b4
  clear y1 o3 x4 b4
  rw [sets_ud] at o4
  have hh : [b8 (u.sport / 256), b8 (u.sport % 256), b8 (u.dport / 256), b8 (u.dport % 256), b8 ((c : Int) / 256), b8 ((c : Int) % 256), 0, 0] = hd8U u := by unfold hd8U; rw [HCI.out]
  rw [hh] at o4
  have HF : Hid (Own w5 w.heap.size g 8 c (hd8U u)) := Go.Lib.hid (World.ownsRow.mono o4 (Nat.le_succ _))
  have xF := b0.trans (x5.mono (Nat.le_succ _))
  clear o4 x5
  go_wp2
  go_ret
  exact ⟨g, c, rfl, HF.out, xF⟩
end Go.Proofs.Ythikllbfkagdnaa
