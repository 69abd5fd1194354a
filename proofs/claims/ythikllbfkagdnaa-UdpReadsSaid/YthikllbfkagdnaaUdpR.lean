/- Datagrams as values and in memory. -/
import Derived.Test.YthikllbfkagdnaaRow
import Derived.Test.YthikllbfkagdnaaSame
import Derived.Test.YthikllbfkagdnaaWords
import Derived.Test.YthikllbfkagdnaaCsumR
import Derived.Test.YthikllbfkagdnaaUdpPlain
namespace Go.Proofs.Ythikllbfkagdnaa
open Go.ChangeShapes Go.WideShapes Go.ChangeAt Go.RowKit
set_option linter.unusedVariables false

abbrev udV (u : Ud) (A_body : Option Addr) (c_body : Nat) : Value := .agg #[.int .i64 u.sport, .int .i64 u.dport, .bool u.nosum, .slice A_body u.body.length c_body]
abbrev udO (u : Ud) (A_body : Option Addr) (c_body : Nat) : Obj := .cells #[.int .i64 u.sport, .int .i64 u.dport, .bool u.nosum, .slice A_body u.body.length c_body] 25
/-- it lies in block b. -/
def udIs (w : World) (b : Nat) (u : Ud) (A_body : Option Addr) (c_body : Nat) : Prop := w.cell? ⟨b, 0, none⟩ = some (.int .i64 u.sport) ∧ w.cell? ⟨b, 1, none⟩ = some (.int .i64 u.dport) ∧ w.cell? ⟨b, 2, none⟩ = some (.bool u.nosum) ∧ w.cell? ⟨b, 3, none⟩ = some (.slice A_body u.body.length c_body)
section
variable {w w' : World} {b B : Nat} {u : Ud} {A_body : Option Addr} {c_body : Nat}
theorem udIs.cells (h : udIs w b u A_body c_body) : w.cell? ⟨b, 0, none⟩ = some (.int .i64 u.sport) ∧ w.cell? ⟨b, 1, none⟩ = some (.int .i64 u.dport) ∧ w.cell? ⟨b, 2, none⟩ = some (.bool u.nosum) ∧ w.cell? ⟨b, 3, none⟩ = some (.slice A_body u.body.length c_body) := h
theorem udIs.keep (h : udIs w b u A_body c_body) (hb : Below B w w') (hlt : b < B) : udIs w' b u A_body c_body := by
  obtain ⟨c0, c1, c2, c3⟩ := h
  exact ⟨(hb.cell (p := ⟨b, 0, none⟩) hlt).trans c0, (hb.cell (p := ⟨b, 1, none⟩) hlt).trans c1, (hb.cell (p := ⟨b, 2, none⟩) hlt).trans c2, (hb.cell (p := ⟨b, 3, none⟩) hlt).trans c3⟩
theorem udIs.call (h : udIs w b u A_body c_body) (hb : Below w.heap.size w w') (hlt : b < w.heap.size) : udIs w' b u A_body c_body := h.keep hb hlt
theorem udIs.made : udIs (w.alloc (.cells #[.int .i64 u.sport, .int .i64 u.dport, .bool u.nosum, .slice A_body u.body.length c_body] 25)) w.heap.size u A_body c_body := by
  refine ⟨?_, ?_, ?_, ?_⟩ <;> simp [go_sem]
end
/-- what came, or was made: a datagram's body. -/
structure UdIn (w : World) (B : Nat) (u : Ud) (Ab : Option Addr) (cb : Nat) : Prop where
  blen : u.body.length ≤ cb
  bcap : cb ≤ 9223372036854775807
  bnil : Ab = none → cb = 0
  bs : Bs w B Ab u.body
theorem UdIn.below {w w' : World} {B : Nat} {u : Ud} {Ab : Option Addr} {cb : Nat} (h : UdIn w B u Ab cb) (hb : Below B w w') : UdIn w' B u Ab cb := ⟨h.blen, h.bcap, h.bnil, h.bs.below hb⟩
theorem UdIn.more {w : World} {B B' : Nat} {u : Ud} {Ab : Option Addr} {cb : Nat} (h : UdIn w B u Ab cb) (hb : B ≤ B') : UdIn w B' u Ab cb := ⟨h.blen, h.bcap, h.bnil, h.bs.more hb⟩

set_option maxRecDepth 100000 in
set_option maxHeartbeats 4000000 in
theorem rlaidU (u : Ud) (Ab : Option Addr) (cb : Nat) (ck : Int) (n : Nat) (hn : n = 8 + u.body.length) (w : World) (hM : MayU u) (k0 : 0 ≤ ck) (k1 : ck ≤ 65535) (hI : UdIn w w.heap.size u Ab cb) :
    Calls Try.prog 24 #[udV u Ab cb, .int .i64 ck] w fun e w' => ∃ g c, e = .returned (.slice (some ⟨g, 0, none⟩) n c) ∧ Own w' w.heap.size g n c (udB u ck) ∧ Below w.heap.size w w' := by
  have HI := Go.Lib.hid hI
  have HN := Go.Lib.hid hn
  obtain ⟨s0, s1, d0, d1, fit⟩ := hM
  have bcap := hI.bcap
  have blen := hI.blen
  have m0 := udIs.made (w := w) (u := u) (A_body := Ab) (c_body := cb)
  have b0 : Below w.heap.size w (w.alloc (.cells #[.int .i64 u.sport, .int .i64 u.dport, .bool u.nosum, .slice Ab u.body.length cb] 25)) := (Below.refl _ _).alloc (Nat.le_refl _) _
  have s0 : w.heap.size < (w.alloc (.cells #[.int .i64 u.sport, .int .i64 u.dport, .bool u.nosum, .slice Ab u.body.length cb] 25)).heap.size := by simp
  have s1 : (w.alloc (.cells #[.int .i64 u.sport, .int .i64 u.dport, .bool u.nosum, .slice Ab u.body.length cb] 25)).heap.size ≠ w.heap.size := by simp
  clear hI hn
  go_enter Try.func24, Try.ntmps24
  go_upto_region 1 with fail
  generalize w.alloc (.cells #[.int .i64 u.sport, .int .i64 u.dport, .bool u.nosum, .slice Ab u.body.length cb] 25) = W at *
  obtain ⟨c0, c1, c2, c3⟩ := m0.cells
  have u1 := IntWalk.u8_in (u.sport / 256) (by omega)
  have u2 := IntWalk.u8_in (u.sport % 256) (by omega)
  have u3 := IntWalk.u8_in (u.dport / 256) (by omega)
  have u4 := IntWalk.u8_in (u.dport % 256) (by omega)
  have u5 := IntWalk.u8_in ((8 + (u.body.length : Int)) / 256) (by omega)
  have u6 := IntWalk.u8_in ((8 + (u.body.length : Int)) % 256) (by omega)
  have u7 := IntWalk.u8_in (ck / 256) (by omega)
  have u8 := IntWalk.u8_in (ck % 256) (by omega)
  have ho := own_lit W w.heap.size [u.sport / 256, u.sport % 256, u.dport / 256, u.dport % 256, (8 + (u.body.length : Int)) / 256, (8 + (u.body.length : Int)) % 256, ck / 256, ck % 256] (by intro x hx; simp at hx; omega) b0.size (by simp)
  have hs := b0.size
  have hz : w.heap.size ≤ (W.alloc (.cells #[.int .u8 (u.sport / 256), .int .u8 (u.sport % 256), .int .u8 (u.dport / 256), .int .u8 (u.dport % 256), .int .u8 ((8 + (u.body.length : Int)) / 256), .int .u8 ((8 + (u.body.length : Int)) % 256), .int .u8 (ck / 256), .int .u8 (ck % 256)] 5)).heap.size := by simp; omega
  have hj : u.body.length ≤ 1073741824 := by omega
  have l8 : [b8 (u.sport / 256), b8 (u.sport % 256), b8 (u.dport / 256), b8 (u.dport % 256), b8 ((8 + (u.body.length : Int)) / 256), b8 ((8 + (u.body.length : Int)) % 256), b8 (ck / 256), b8 (ck % 256)].length ≤ 1073741824 := by simp
  go_wp2_with (at_builtin; refine ap rfl _ _ rfl w.heap.size _ [b8 (u.sport / 256), b8 (u.sport % 256), b8 (u.dport / 256), b8 (u.dport % 256), b8 ((8 + (u.body.length : Int)) / 256), b8 ((8 + (u.body.length : Int)) % 256), b8 (ck / 256), b8 (ck % 256)] rfl ho.row w.heap.size Ab _ cb u.body rfl rfl HI.out.bnil (HI.out.bs.below (b0.alloc hs _)) l8 hj hz ?_; intro v6 w6 hrow6 hb6)
  obtain ⟨g, c, rfl, hown⟩ := hrow6.own (by simp)
  have hl : ([b8 (u.sport / 256), b8 (u.sport % 256), b8 (u.dport / 256), b8 (u.dport % 256), b8 ((8 + (u.body.length : Int)) / 256), b8 ((8 + (u.body.length : Int)) % 256), b8 (ck / 256), b8 (ck % 256)] ++ u.body).length = n := by rw [HN.out]; simp; omega
  rw [hl] at hown
  rw [hl]
  clear hl c0 c1 c2 c3
  go_wp2
  go_ret
  exact ⟨g, c, rfl, hown, (b0.alloc hs _).trans hb6⟩
end Go.Proofs.Ythikllbfkagdnaa
