/- Contracts of the document's own sums of bytes: the words one behind the other, then their sum. -/
import Derived.Test.YtndhiopfkgdhcaaRows
import Derived.WalkKit
import Derived.ProofKit
import Derived.OpenShut
import Derived.Below
import Derived.Deep.QuietTactic
import Derived.BigQuiet
import Derived.OwnWalk
import Derived.Maps.AppendAt
import Derived.Test.YtndhiopfkgdhcaaPlain
import Derived.Test.YtndhiopfkgdhcaaMem
namespace Go.Proofs.Ytndhiopfkgdhcaa
open Go.ChangeShapes Go.WideShapes Go.ChangeAt Go.RowKit

set_option maxRecDepth 100000 in
set_option maxHeartbeats 400000 in
theorem rjoin (a b : Int) (ha : 0 ≤ a ∧ a ≤ 65535) (hb : 0 ≤ b ∧ b ≤ 65535) (w : World) :
    Calls Try.prog 49 #[.int .u16 a, .int .u16 b] w fun e w' => e = .returned (.int .u16 (fo (a + b))) ∧ w = w' := by
  obtain ⟨a0, a1⟩ := ha
  obtain ⟨b0, b1⟩ := hb
  by_cases h : 65535 < a + b
  · go_enter Try.func49, Try.ntmps49
    go_wp2
    go_ret
    exact ⟨ret_int (by rw [← fo_sub _ h (by omega)]), rfl⟩
  · go_enter Try.func49, Try.ntmps49
    go_wp2
    go_ret
    exact ⟨ret_int (by rw [fo_small _ (by omega) (by omega)]), rfl⟩

theorem info23 : (Try.prog.info? 55).map (fun i => (i.zero, i.size, i.bytes)) = some (some (.int .u16 0), 1, 2) := by kernel_rfl

set_option maxRecDepth 100000 in
set_option maxHeartbeats 1000000 in
theorem rwords (A : Option Addr) (c : Nat) (l : List UInt8) (w : World) (h : Bs w w.heap.size A l) (hl : l.length ≤ 16777216) (hlc : l.length ≤ c) :
    Calls Try.prog 40 #[.slice A l.length c] w fun e w' => ∃ v, e = .returned v ∧ w'.ownsRow w.heap.size 55 1 v (wrds l).length ((wrds l).map (Value.int .u16)) ∧ Below w.heap.size w w' := by
  obtain ⟨i0, hi, hz0, hz1, hz2⟩ := info_parts info23
  go_enter Try.func40, Try.ntmps40
  go_wp2
  go_loopw [3, 4] (fun v i wr => ∃ k : Nat, k % 2 = 0 ∧ k ≤ l.length + 1 ∧ i = .int .i64 k ∧ wr.ownsRow w.heap.size 55 1 v (wrds (l.take k)).length ((wrds (l.take k)).map (Value.int .u16)) ∧ Below w.heap.size w wr) (fun _ i _ => l.length + 2 - (intOf i).toNat)
  case atStart => exact ⟨0, rfl, by omega, rfl, by simpa [wrds] using World.ownsRow_nil _ _ _ _, Below.refl _ _⟩
  case round =>
    obtain ⟨k, hk2, hk, rfl, hown, hbel⟩ := hrel
    by_cases hlt : k < l.length
    · rcases h with h | ⟨ad, rfl, hb, hcell⟩
      · subst h; simp at hlt
      have hbk : w.heap.size ≤ wr.heap.size := hbel.size
      have hck : wr.cell? (ad.add k) = some (.int .u8 (l[k].toNat : Int)) := (hbel.cell (by rw [block_add]; exact hb)).trans (hcell k _ (List.getElem?_eq_getElem hlt))
      have hx1 := l[k].toNat_lt
      by_cases hlt2 : k + 1 < l.length
      · have hck2 : wr.cell? { block := ad.block, off := ad.off + (k + 1) } = some (.int .u8 (l[k + 1].toNat : Int)) := by
          have := (hbel.cell (p := ad.add (k + 1)) (by rw [block_add]; exact hb)).trans (hcell (k + 1) _ (List.getElem?_eq_getElem hlt2))
          unfold Addr.add at this; rw [if_neg (by omega)] at this; exact this
        have hx2 := l[k + 1].toNat_lt
        have HW := Go.Lib.hid (wrds_two l k hk2 hlt2)
        have HB := Go.Lib.hid hbel
        clear hcell hbel
        obtain ⟨x, hx⟩ : ∃ x : Nat, x = l[k].toNat := ⟨_, rfl⟩
        obtain ⟨y, hy⟩ : ∃ y : Nat, y = l[k + 1].toNat := ⟨_, rfl⟩
        rw [← hx] at hck hx1 HW
        rw [← hy] at hck2 hx2 HW
        have e1 := IntWalk.u16_in x (by omega)
        have e2 := IntWalk.u16_in (x * 256) (by omega)
        have e3 := IntWalk.u16_in y (by omega)
        have e4 := IntWalk.u16_in (x * 256 + y) (by omega)
        clear hx hy
        go_wp2_with (at_builtin; refine wpList_append_own _ rfl _ _ 63 rfl w.heap.size 55 i0 (.int .u16 0) 1 2 Try.underlying63 hi hz0 hz1 hz2 rfl (by decide) _ _ _ rfl (hown.alloc _) ⟨wr.heap.size, 0, none⟩ 1 1 [.int .u16 ((x : Int) * 256 + y)] rfl rfl ?c1 ?c2 ?c3 ?c4 ?c5 ?_)
        case c1 =>
          intro j u hj
          match j, hj with
          | 0, hj => simp at hj; subst hj; simp [Addr.add]
        case c2 => intro u hu; simp at hu; subst hu; rfl
        case c3 => rw [wrds_length]; have := List.length_take_le k l; unfold maxLen; omega
        case c4 => rw [wrds_length]; have := List.length_take_le k l; omega
        case c5 => simp; omega
        intro v1 w1 hown1 hg1 _
        go_wp2
        go_roundw
        case rel =>
          refine ⟨k + 2, by omega, by omega, by go_num, ?_, (HB.out.alloc hbk _).grown hg1 (by simp; omega) (fun q hq => (hown.lt q hq).1)⟩
          have e : (wrds (l.take k)).length + 1 = (wrds (l.take (k + 2))).length := by rw [HW.out]; simp
          rw [e] at hown1
          rw [show (wrds (l.take (k + 2))).map (Value.int .u16) = (wrds (l.take k)).map (Value.int .u16) ++ [Value.int .u16 (x * 256 + y)] from by rw [HW.out]; simp [Int.mul_comm]]
          exact hown1
        case measure => simp [intOf]; omega
      · have HW := Go.Lib.hid (wrds_one l k hk2 (by omega))
        have HB := Go.Lib.hid hbel
        clear hcell hbel
        obtain ⟨x, hx⟩ : ∃ x : Nat, x = l[k].toNat := ⟨_, rfl⟩
        rw [← hx] at hck hx1 HW
        have e1 := IntWalk.u16_in x (by omega)
        have e2 := IntWalk.u16_in (x * 256) (by omega)
        clear hx
        go_wp2_with (at_builtin; refine wpList_append_own _ rfl _ _ 63 rfl w.heap.size 55 i0 (.int .u16 0) 1 2 Try.underlying63 hi hz0 hz1 hz2 rfl (by decide) _ _ _ rfl (hown.alloc _) ⟨wr.heap.size, 0, none⟩ 1 1 [.int .u16 ((x : Int) * 256)] rfl rfl ?c1 ?c2 ?c3 ?c4 ?c5 ?_)
        case c1 =>
          intro j u hj
          match j, hj with
          | 0, hj => simp at hj; subst hj; simp [Addr.add]
        case c2 => intro u hu; simp at hu; subst hu; rfl
        case c3 => rw [wrds_length]; have := List.length_take_le k l; unfold maxLen; omega
        case c4 => rw [wrds_length]; have := List.length_take_le k l; omega
        case c5 => simp; omega
        intro v1 w1 hown1 hg1 _
        go_wp2
        go_roundw
        case rel =>
          refine ⟨k + 2, by omega, by omega, by go_num, ?_, (HB.out.alloc hbk _).grown hg1 (by simp; omega) (fun q hq => (hown.lt q hq).1)⟩
          have e : (wrds (l.take k)).length + 1 = (wrds (l.take (k + 2))).length := by rw [HW.out]; simp
          rw [e] at hown1
          rw [show (wrds (l.take (k + 2))).map (Value.int .u16) = (wrds (l.take k)).map (Value.int .u16) ++ [Value.int .u16 (x * 256)] from by rw [HW.out]; simp [Int.mul_comm]]
          exact hown1
        case measure => simp [intOf]; omega
    · have ht : l.take k = l := List.take_of_length_le (by omega)
      rw [ht] at hown
      clear ht h
      go_wp2
      go_ret
      exact ⟨_, rfl, hown, hbel⟩

theorem take_sum (zs : List Int) (k : Nat) (h : k < zs.length) : (zs.take (k + 1)).sum = (zs.take k).sum + zs[k] := by
  rw [List.take_succ_eq_append_getElem h, List.sum_append]; simp

theorem sum_lo (zs : List Int) (h : ∀ x ∈ zs, 0 ≤ x ∧ x ≤ 65535) : 0 ≤ zs.sum := by
  induction zs with
  | nil => simp
  | cons a r ih => have := h a (by simp); have := ih (fun x hx => h x (by simp [hx])); simp; omega

set_option maxRecDepth 100000 in
set_option maxHeartbeats 1000000 in
theorem rsum (A : Option Addr) (c : Nat) (l : List UInt8) (w : World) (h : Bs w w.heap.size A l) (hl : l.length ≤ 16777216) (hlc : l.length ≤ c) :
    Calls Try.prog 29 #[.slice A l.length c] w fun e w' => e = .returned (.int .u16 (fo (tot l))) ∧ Below w.heap.size w w' := by
  go_enter Try.func29, Try.ntmps29
  go_wp2_with (go_at_call 40; refine (rwords A c l _ h hl hlc).mono ?_; rintro e w1 ⟨v, rfl, hown, hbel⟩)
  obtain ⟨A', c', rfl, hnc, hcm, _, hrd⟩ := rd_of_own hown
  have hbd := wrds_bd l
  have hln := wrds_length l
  have HS := Go.Lib.hid (wrds_sum l)
  generalize hz : wrds l = zs at *
  unfold maxLen at hcm
  clear hz hown h
  have hz2 : zs.length ≤ 16777216 := by omega
  clear hln
  go_loop [3, 5] (fun s i => ∃ k : Nat, k ≤ zs.length ∧ i = .int .i64 k ∧ s = .int .u16 (fo (zs.take k).sum)) (fun _ i => zs.length - (intOf i).toNat)
  case atStart => exact ⟨0, Nat.zero_le _, rfl, rfl⟩
  case round =>
    obtain ⟨k, hk, rfl, rfl⟩ := hrel
    have f1 := fo_lo (zs.take k).sum
    have f2 := fo_hi (zs.take k).sum
    by_cases hlt : k < zs.length
    · have hb := hbd _ (List.getElem_mem hlt)
      obtain ⟨b0, b1⟩ := hb
      rcases hrd with hrd | ⟨ad, rfl, had, hcell⟩
      · simp at hrd; subst hrd; simp at hlt
      have hck : w1.cell? (ad.add k) = some (.int .u16 zs[k]) := hcell k _ (by simp [List.getElem?_eq_getElem hlt])
      clear hcell
      have HT : Hid (fo (fo (zs.take k).sum + zs[k]) = fo (zs.take (k + 1)).sum) := by
        show _ = _
        rw [take_sum zs k hlt, fo_fo _ _ (sum_lo _ (fun x hx => hbd x (List.mem_of_mem_take hx))) b0]
      clear hbd
      generalize zs[k] = z at *
      generalize fo (zs.take k).sum = s at *
      go_wp2_with (go_at_call 49; refine (rjoin _ _ (by omega) (by omega) _).mono ?_; rintro e w' ⟨rfl, rfl⟩)
      go_round
      case rel => exact ⟨k + 1, by omega, by go_num, by rw [HT.out]⟩
      case measure => simp [intOf]; omega
    · have HT : Hid (fo (zs.take k).sum = fo (tot l)) := by show _ = _; rw [List.take_of_length_le (by omega), HS.out]
      go_wp2
      go_ret
      exact ⟨ret_int HT.out, hbel⟩
end Go.Proofs.Ytndhiopfkgdhcaa
