/- Routes as values, and in rows. -/
import Derived.Test.YtalmknbcfgndkaaRoutePlain
import Derived.Test.YtalmknbcfgndkaaFlat
namespace Go.Proofs.Ytalmknbcfgndkaa
open Go.ChangeShapes Go.WideShapes Go.ChangeAt Go.RowKit
set_option linter.unusedVariables false
set_option linter.unusedSimpArgs false

def Rt.L (r : Rt) : List Value := [.int .u32 r.net, .int .i64 r.bits, .int .i64 r.zone, .int .i64 r.mtu]
abbrev rtL (r : Rt) : List Value := [.int .u32 r.net, .int .i64 r.bits, .int .i64 r.zone, .int .i64 r.mtu]
abbrev rtV (r : Rt) : Value := .agg #[.int .u32 r.net, .int .i64 r.bits, .int .i64 r.zone, .int .i64 r.mtu]
abbrev oRt (r : Rt) : Obj := .cells #[.int .u32 r.net, .int .i64 r.bits, .int .i64 r.zone, .int .i64 r.mtu] 26
theorem Rt.len (r : Rt) : r.L.length = 4 := rfl
theorem info_rt : (Try.prog.info? 26).map (·.size) = some 4 := by kernel_rfl
theorem info_rtz : (Try.prog.info? 26).map (fun i => (i.zero, i.size, i.bytes)) = some (some (.agg #[.int .u32 0, .int .i64 0, .int .i64 0, .int .i64 0]), 4, 32) := by kernel_rfl
theorem rt_one (l : List Rt) : ∀ u ∈ l.flatMap Rt.L, u.oneCell' = true := fun u hu => by
  obtain ⟨e, _, he⟩ := List.mem_flatMap.1 hu
  simp only [Rt.L, List.mem_cons, List.not_mem_nil, or_false] at he
  rcases he with rfl | rfl | rfl | rfl <;> rfl
def sameRt (a b : Rt) : Bool := a.net == b.net && (a.bits == b.bits && (a.zone == b.zone && a.mtu == b.mtu))
theorem sameRt_iff (a b : Rt) : sameRt a b = true ↔ a = b := by
  obtain ⟨a1, a2, a3, a4⟩ := a
  obtain ⟨b1, b2, b3, b4⟩ := b
  unfold sameRt
  simp
set_option maxRecDepth 100000 in
theorem eqInRt (m n : Rt) (w : World) : (Op.equalIn 10000 26 (rtV m) (rtV n)).run Try.prog w = .ok (sameRt m n) w := by
  have hS : Try.prog.underlying 26 = some (.struct (Try.prog.fieldsOf 26)) := by kernel_rfl
  have hp : Try.prog.stoodInHeld 26 = false := by kernel_rfl
  have u3 := Try.underlying3
  have u4 := Try.underlying23
  have a3 := Try.isAgg3
  have z3 := Try.sizeOf3
  have a4 := Try.isAgg23
  have z4 := Try.sizeOf23
  rw [show (10000 : Nat) = 9999 + 1 from rfl, run_equalIn_agg w 9999 26 _ _ hS hp]
  simp only [Program.fieldsOf, Try.underlying26]
  obtain ⟨m1, m2, m3, m4⟩ := m
  obtain ⟨n1, n2, n3, n4⟩ := n
  unfold sameRt
  dsimp only
  simp only [Op.eqFields]
  go_simp
  by_cases h1 : m1 = n1 <;> by_cases h2 : m2 = n2 <;> by_cases h3 : m3 = n3 <;> by_cases h4 : m4 = n4 <;> simp [h1, h2, h3, h4]
theorem eqRt (m n : Rt) (w : World) : (binOp .eql 26 (rtV m) (rtV n)).run Try.prog w = .ok (.bool (sameRt m n)) w := by
  rw [run_eql_struct, eqInRt]; rfl
theorem neRt (m n : Rt) (w : World) : (binOp .neq 26 (rtV m) (rtV n)).run Try.prog w = .ok (.bool (!sameRt m n)) w := by
  rw [run_neq_struct, eqInRt]; rfl
/-- routes in a row. -/
structure RtsAt (w : World) (l : List Rt) (A : Option Addr) (c : Nat) : Prop where
  len : l.length ≤ c
  cap : c ≤ 9223372036854775807
  nil : A = none → c = 0
  rd : RdC w A (l.flatMap Rt.L)
  rng : ∀ r ∈ l, RngRt r
section
variable {w w' : World} {l : List Rt} {A : Option Addr} {c : Nat}
theorem RtsAt.at (h : RtsAt w l A c) (y : Below w.heap.size w w') : RtsAt w' l A c := ⟨h.len, h.cap, h.nil, h.rd.keep y, h.rng⟩
theorem RtsAt.cell (h : RtsAt w l A c) {i : Nat} (hi : i < l.length) : ∃ ad, A = some ad ∧ ∀ Y, Below w.heap.size w Y → ∀ j v, (rtL l[i])[j]? = some v → Y.cell? ((ad.add (i * 4)).add j) = some v := by
  rcases h.rd with h0 | ⟨ad, e, hc⟩
  · have := flat_len Rt.L 4 Rt.len l
    rw [h0] at this
    simp at this
    omega
  · refine ⟨ad, e, fun Y y j v hv => ?_⟩
    have hj : j < 4 := by have := (List.getElem?_eq_some_iff.1 hv).1; simpa using this
    have h1 : (l.flatMap Rt.L)[i * 4 + j]? = some v := by
      rw [flat_get Rt.L 4 Rt.len l i j hi hj]; exact hv
    have h2 := hc _ _ h1
    rw [add_add]
    exact (y.cell (World.block_lt_of_cell? w _ h2)).trans h2
/-- the cells of one, as a walk names them. -/
theorem RtsAt.cells (h : RtsAt w l A c) {i : Nat} (hi : i < l.length) : ∃ ad, A = some ad ∧ ∀ Y, Below w.heap.size w Y → Y.cell? (ad.add (i * 4)) = some (.int .u32 l[i].net) ∧ Y.cell? { block := (ad.add (i * 4)).block, off := (ad.add (i * 4)).off + 1 } = some (.int .i64 l[i].bits) := by
  obtain ⟨ad, e, hc⟩ := h.cell hi
  refine ⟨ad, e, fun Y y => ⟨?_, ?_⟩⟩
  · have := hc Y y 0 _ rfl
    rwa [add_add, Nat.add_zero] at this
  · exact at_off 1 (by have := hc Y y 1 _ rfl; rwa [add_add] at this) (by omega)
/-- its first ones. -/
theorem RtsAt.take (h : RtsAt w l A c) (n : Nat) : RtsAt w (l.take n) A c := by
  refine ⟨by rw [List.length_take]; have := h.len; omega, h.cap, h.nil, ?_, fun r hr => h.rng r (List.mem_of_mem_take hr)⟩
  rcases h.rd with h0 | ⟨ad, e, hc⟩
  · left
    have := flat_len Rt.L 4 Rt.len l
    rw [h0] at this
    simp at this
    have hl : l = [] := List.eq_nil_of_length_eq_zero (by omega)
    subst hl
    simp
  · refine .inr ⟨ad, e, fun j u hj => hc j u ?_⟩
    rw [← flat_take Rt.L 4 Rt.len, List.getElem?_take] at hj
    split at hj
    · exact hj
    · cases hj
theorem RtsAt.ofOwn {n base : Nat} {e : TypeId} (hn : l.length = n) (ho : w.ownsRow base e 4 (.slice A n c) n (l.flatMap Rt.L)) (hr : ∀ r ∈ l, RngRt r) : RtsAt w l A c := by
  have hcc := own_cap ho
  unfold maxLen at hcc
  refine ⟨by omega, hcc.2, fun e => ?_, own_rd ho, hr⟩
  rcases own_addr ho with ⟨_, _, hc⟩ | ⟨g, e', _⟩
  · exact hc
  · rw [e'] at e; cases e
end
/-- nets halved. -/
theorem half_u32 {a : Int} (h : 0 ≤ a ∧ a ≤ 4294967295) : IntKind.u32.wrap (Int.tdiv a 2) = a / 2 := by
  rw [Int.tdiv_eq_ediv_of_nonneg h.1]
  exact IntWalk.u32_in _ (by omega)
set_option maxRecDepth 100000 in
set_option maxHeartbeats 4000000 in
theorem rin13 (addr net bits : Int) (ha : 0 ≤ addr ∧ addr ≤ 4294967295) (hn : 0 ≤ net ∧ net ≤ 4294967295) (w : World) (q : Bool) (hq : inN addr net bits = q) :
    Calls Try.prog 15 #[.int .u32 addr, .int .u32 net, .int .i64 bits] w fun e w' => e = .returned (.bool q) ∧ Below w.heap.size w w' := by
  by_cases h0 : bits < 0
  · have HQ : Hid (q = false) := Go.Lib.hid (by rw [← hq]; unfold inN; rw [decide_eq_false (show ¬ 0 ≤ bits by omega)]; rfl)
    clear hq
    go_enter Try.func15, Try.ntmps15
    go_wp2
    go_ret
    exact ⟨by rw [HQ.out]; rfl, Below.refl _ _⟩
  by_cases h32 : 32 < bits
  · have HQ : Hid (q = false) := Go.Lib.hid (by rw [← hq]; unfold inN; rw [decide_eq_false (show ¬ bits ≤ 32 by omega), Bool.false_and, Bool.and_false])
    clear hq
    go_enter Try.func15, Try.ntmps15
    go_wp2
    go_ret
    exact ⟨by rw [HQ.out]; rfl, Below.refl _ _⟩
  have HQ : Hid (q = (addr / powR bits == net / powR bits)) := Go.Lib.hid (by rw [← hq]; unfold inN; rw [decide_eq_true (show 0 ≤ bits by omega), decide_eq_true (show bits ≤ 32 by omega)]; rfl)
  have e1 : IntKind.i64.wrap (32 - bits) = 32 - bits := IntWalk.i64_in _ (by omega)
  clear hq
  go_enter Try.func15, Try.ntmps15
  go_wp2_with fail
  go_loop [0, 1, 7] (fun av nv iv => ∃ (k : Nat) (a n : Int), av = .int .u32 a ∧ nv = .int .u32 n ∧ iv = .int .i64 k ∧ k ≤ (32 - bits).toNat ∧ Hid (a = addr / 2 ^ k ∧ n = net / 2 ^ k) ∧ (0 ≤ a ∧ a ≤ 4294967295) ∧ (0 ≤ n ∧ n ≤ 4294967295)) (fun _ _ iv => (32 - bits).toNat - (intOf iv).toNat)
  case atStart => exact ⟨0, addr, net, rfl, rfl, rfl, by omega, Go.Lib.hid ⟨by simp, by simp⟩, ha, hn⟩
  case round =>
    obtain ⟨k, a, n, rfl, rfl, rfl, hk, HK, hra, hrn⟩ := hrel
    have k0 : (0 : Int) ≤ (k : Int) := by omega
    by_cases hkl : (k : Int) < 32 - bits
    · have q1 := half_u32 hra
      have q2 := half_u32 hrn
      go_wp2_with fail
      go_round
      case rel => exact ⟨k + 1, a / 2, n / 2, by rw [← q1], by rw [← q2], by go_num, by omega, Go.Lib.hid ⟨by rw [HK.out.1, Int.pow_succ, Int.ediv_ediv_of_nonneg (Int.le_of_lt (Int.pow_pos (by decide)))], by rw [HK.out.2, Int.pow_succ, Int.ediv_ediv_of_nonneg (Int.le_of_lt (Int.pow_pos (by decide)))]⟩, by omega, by omega⟩
      case measure => simp [intOf]; omega
    · have e : (32 - bits).toNat = k := by omega
      have HR : Hid ((a == n) = q) := Go.Lib.hid (by rw [HQ.out, HK.out.1, HK.out.2]; unfold powR; rw [e])
      go_wp2_with fail
      go_ret
      exact ⟨ret_bool HR.out, Below.refl _ _⟩
end Go.Proofs.Ytalmknbcfgndkaa
