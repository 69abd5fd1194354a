/- Segments as values and in memory. -/
import Derived.Test.YtghgemmbbedopaaOwn
import Derived.Test.YtghgemmbbedopaaSame
import Derived.Test.YtghgemmbbedopaaTcpMem
import Derived.Test.YtghgemmbbedopaaRow
namespace Go.Proofs.Ytghgemmbbedopaa
open Go.ChangeShapes Go.WideShapes Go.ChangeAt Go.RowKit
set_option linter.unusedVariables false

abbrev tcV (t : Tc) (A_opts : Option Addr) (c_opts : Nat) (A_body : Option Addr) (c_body : Nat) : Value := .agg #[.int .i64 t.sport, .int .i64 t.dport, .int .u32 t.seq, .int .u32 t.ack, .int .i64 t.flags, .int .i64 t.win, .int .i64 t.urg, .slice A_opts t.opts.length c_opts, .slice A_body t.body.length c_body]
abbrev tcO (t : Tc) (A_opts : Option Addr) (c_opts : Nat) (A_body : Option Addr) (c_body : Nat) : Obj := .cells #[.int .i64 t.sport, .int .i64 t.dport, .int .u32 t.seq, .int .u32 t.ack, .int .i64 t.flags, .int .i64 t.win, .int .i64 t.urg, .slice A_opts t.opts.length c_opts, .slice A_body t.body.length c_body] 26
/-- it lies in block b. -/
def tcIs (w : World) (b : Nat) (t : Tc) (A_opts : Option Addr) (c_opts : Nat) (A_body : Option Addr) (c_body : Nat) : Prop := w.cell? ⟨b, 0, none⟩ = some (.int .i64 t.sport) ∧ w.cell? ⟨b, 1, none⟩ = some (.int .i64 t.dport) ∧ w.cell? ⟨b, 2, none⟩ = some (.int .u32 t.seq) ∧ w.cell? ⟨b, 3, none⟩ = some (.int .u32 t.ack) ∧ w.cell? ⟨b, 4, none⟩ = some (.int .i64 t.flags) ∧ w.cell? ⟨b, 5, none⟩ = some (.int .i64 t.win) ∧ w.cell? ⟨b, 6, none⟩ = some (.int .i64 t.urg) ∧ w.cell? ⟨b, 7, none⟩ = some (.slice A_opts t.opts.length c_opts) ∧ w.cell? ⟨b, 8, none⟩ = some (.slice A_body t.body.length c_body)
section
variable {w w' : World} {b B : Nat} {t : Tc} {A_opts : Option Addr} {c_opts : Nat} {A_body : Option Addr} {c_body : Nat}
theorem tcIs.cells (h : tcIs w b t A_opts c_opts A_body c_body) : w.cell? ⟨b, 0, none⟩ = some (.int .i64 t.sport) ∧ w.cell? ⟨b, 1, none⟩ = some (.int .i64 t.dport) ∧ w.cell? ⟨b, 2, none⟩ = some (.int .u32 t.seq) ∧ w.cell? ⟨b, 3, none⟩ = some (.int .u32 t.ack) ∧ w.cell? ⟨b, 4, none⟩ = some (.int .i64 t.flags) ∧ w.cell? ⟨b, 5, none⟩ = some (.int .i64 t.win) ∧ w.cell? ⟨b, 6, none⟩ = some (.int .i64 t.urg) ∧ w.cell? ⟨b, 7, none⟩ = some (.slice A_opts t.opts.length c_opts) ∧ w.cell? ⟨b, 8, none⟩ = some (.slice A_body t.body.length c_body) := h
theorem tcIs.keep (h : tcIs w b t A_opts c_opts A_body c_body) (hb : Below B w w') (hlt : b < B) : tcIs w' b t A_opts c_opts A_body c_body := by
  obtain ⟨c0, c1, c2, c3, c4, c5, c6, c7, c8⟩ := h
  exact ⟨(hb.cell (p := ⟨b, 0, none⟩) hlt).trans c0, (hb.cell (p := ⟨b, 1, none⟩) hlt).trans c1, (hb.cell (p := ⟨b, 2, none⟩) hlt).trans c2, (hb.cell (p := ⟨b, 3, none⟩) hlt).trans c3, (hb.cell (p := ⟨b, 4, none⟩) hlt).trans c4, (hb.cell (p := ⟨b, 5, none⟩) hlt).trans c5, (hb.cell (p := ⟨b, 6, none⟩) hlt).trans c6, (hb.cell (p := ⟨b, 7, none⟩) hlt).trans c7, (hb.cell (p := ⟨b, 8, none⟩) hlt).trans c8⟩
theorem tcIs.call (h : tcIs w b t A_opts c_opts A_body c_body) (hb : Below w.heap.size w w') (hlt : b < w.heap.size) : tcIs w' b t A_opts c_opts A_body c_body := h.keep hb hlt
theorem tcIs.made : tcIs (w.alloc (.cells #[.int .i64 t.sport, .int .i64 t.dport, .int .u32 t.seq, .int .u32 t.ack, .int .i64 t.flags, .int .i64 t.win, .int .i64 t.urg, .slice A_opts t.opts.length c_opts, .slice A_body t.body.length c_body] 26)) w.heap.size t A_opts c_opts A_body c_body := by
  refine ⟨?_, ?_, ?_, ?_, ?_, ?_, ?_, ?_, ?_⟩ <;> simp [go_sem]
end

end Go.Proofs.Ytghgemmbbedopaa
