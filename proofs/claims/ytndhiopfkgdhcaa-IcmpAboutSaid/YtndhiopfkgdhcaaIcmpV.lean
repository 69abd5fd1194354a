/- Messages of control as values and in memory. -/
import Derived.Test.YtndhiopfkgdhcaaRow
import Derived.Test.YtndhiopfkgdhcaaSame
import Derived.Test.YtndhiopfkgdhcaaWords
import Derived.Test.YtndhiopfkgdhcaaIcmpPlain
namespace Go.Proofs.Ytndhiopfkgdhcaa
open Go.ChangeShapes Go.WideShapes Go.ChangeAt Go.RowKit
set_option linter.unusedVariables false

abbrev icV (m : Ic) (A_body : Option Addr) (c_body : Nat) : Value := .agg #[.int .i64 m.type, .int .i64 m.code, .int .u32 m.rest, .slice A_body m.body.length c_body]
abbrev icO (m : Ic) (A_body : Option Addr) (c_body : Nat) : Obj := .cells #[.int .i64 m.type, .int .i64 m.code, .int .u32 m.rest, .slice A_body m.body.length c_body] 25
/-- it lies in block b. -/
def icIs (w : World) (b : Nat) (m : Ic) (A_body : Option Addr) (c_body : Nat) : Prop := w.cell? ⟨b, 0, none⟩ = some (.int .i64 m.type) ∧ w.cell? ⟨b, 1, none⟩ = some (.int .i64 m.code) ∧ w.cell? ⟨b, 2, none⟩ = some (.int .u32 m.rest) ∧ w.cell? ⟨b, 3, none⟩ = some (.slice A_body m.body.length c_body)
section
variable {w w' : World} {b B : Nat} {m : Ic} {A_body : Option Addr} {c_body : Nat}
theorem icIs.cells (h : icIs w b m A_body c_body) : w.cell? ⟨b, 0, none⟩ = some (.int .i64 m.type) ∧ w.cell? ⟨b, 1, none⟩ = some (.int .i64 m.code) ∧ w.cell? ⟨b, 2, none⟩ = some (.int .u32 m.rest) ∧ w.cell? ⟨b, 3, none⟩ = some (.slice A_body m.body.length c_body) := h
theorem icIs.keep (h : icIs w b m A_body c_body) (hb : Below B w w') (hlt : b < B) : icIs w' b m A_body c_body := by
  obtain ⟨c0, c1, c2, c3⟩ := h
  exact ⟨(hb.cell (p := ⟨b, 0, none⟩) hlt).trans c0, (hb.cell (p := ⟨b, 1, none⟩) hlt).trans c1, (hb.cell (p := ⟨b, 2, none⟩) hlt).trans c2, (hb.cell (p := ⟨b, 3, none⟩) hlt).trans c3⟩
theorem icIs.call (h : icIs w b m A_body c_body) (hb : Below w.heap.size w w') (hlt : b < w.heap.size) : icIs w' b m A_body c_body := h.keep hb hlt
theorem icIs.made : icIs (w.alloc (.cells #[.int .i64 m.type, .int .i64 m.code, .int .u32 m.rest, .slice A_body m.body.length c_body] 25)) w.heap.size m A_body c_body := by
  refine ⟨?_, ?_, ?_, ?_⟩ <;> simp [go_sem]
end
/-- what came, or was made: a message's body. -/
structure IcIn (w : World) (B : Nat) (m : Ic) (Ab : Option Addr) (cb : Nat) : Prop where
  r0 : 0 ≤ m.rest
  r1 : m.rest ≤ 4294967295
  blen : m.body.length ≤ cb
  bcap : cb ≤ 9223372036854775807
  bnil : Ab = none → cb = 0
  bs : Bs w B Ab m.body
theorem IcIn.below {w w' : World} {B : Nat} {m : Ic} {Ab : Option Addr} {cb : Nat} (h : IcIn w B m Ab cb) (hb : Below B w w') : IcIn w' B m Ab cb := ⟨h.r0, h.r1, h.blen, h.bcap, h.bnil, h.bs.below hb⟩
theorem IcIn.more {w : World} {B B' : Nat} {m : Ic} {Ab : Option Addr} {cb : Nat} (h : IcIn w B m Ab cb) (hb : B ≤ B') : IcIn w B' m Ab cb := ⟨h.r0, h.r1, h.blen, h.bcap, h.bnil, h.bs.more hb⟩
theorem IcIn.at {w : World} {m : Ic} {Ab : Option Addr} {cb : Nat} (h : IcIn w w.heap.size m Ab cb) {w' : World} (hb : Below w.heap.size w w') : IcIn w' w'.heap.size m Ab cb := (h.below hb).more hb.size
theorem icIn_empty {w : World} {B : Nat} : IcIn w B Ic.empty none 0 := ⟨by decide, by decide, Nat.le_refl _, by omega, fun _ => rfl, .inl rfl⟩

/-- what is put, and whether. -/
structure PutIL (m : Ic) (L : List UInt8) (n : Nat) (r : Int) : Prop where
  len : L.length = n
  small : n ≤ 65535
  way : (mayI m = true ∧ L = putI m ∧ r = 0) ∨ (mayI m = false ∧ L = [] ∧ r = 1)
theorem putIL (m : Ic) : ∃ L n r, PutIL m L n r := by
  by_cases h : mayI m = true
  · have M := (mayI_iff m).1 h
    refine ⟨putI m, _, 0, rfl, ?_, .inl ⟨h, rfl, rfl⟩⟩
    have := M.fit
    rw [putI_length]; omega
  · exact ⟨[], 0, 1, rfl, by omega, .inr ⟨by simpa using h, rfl, rfl⟩⟩
theorem PutIL.no {m : Ic} {L : List UInt8} {n : Nat} {r : Int} (h : PutIL m L n r) (hm : ¬ MayI m) : L = [] ∧ n = 0 ∧ r = 1 := by
  rcases h.way with ⟨a, _⟩ | ⟨_, rfl, rfl⟩
  · exact absurd ((mayI_iff m).1 a) hm
  · have := h.len; simp at this; exact ⟨rfl, this.symm, rfl⟩
theorem PutIL.yes {m : Ic} {L : List UInt8} {n : Nat} {r : Int} (h : PutIL m L n r) (hm : MayI m) : L = putI m ∧ n = 8 + m.body.length ∧ r = 0 := by
  rcases h.way with ⟨_, rfl, rfl⟩ | ⟨a, _⟩
  · have := h.len; rw [putI_length] at this; exact ⟨rfl, this.symm, rfl⟩
  · rw [(mayI_iff m).2 hm] at a; cases a
/-- ways in which a message may not be put. -/
theorem mayI_not (m : Ic) (h : ¬ MayI m) : m.type < 0 ∨ (0 ≤ m.type ∧ 255 < m.type) ∨ (0 ≤ m.type ∧ m.type ≤ 255 ∧ m.code < 0) ∨ (0 ≤ m.type ∧ m.type ≤ 255 ∧ 0 ≤ m.code ∧ 255 < m.code) ∨ (0 ≤ m.type ∧ m.type ≤ 255 ∧ 0 ≤ m.code ∧ m.code ≤ 255 ∧ 65527 < (m.body.length : Int)) := by
  by_cases h1 : 0 ≤ m.type ∧ m.type ≤ 255 ∧ 0 ≤ m.code ∧ m.code ≤ 255
  · have : ¬ m.body.length ≤ 65527 := fun h2 => h ⟨h1.1, h1.2.1, h1.2.2.1, h1.2.2.2, h2⟩
    omega
  · omega

/-- what Parse and Tell hand back. -/
structure GivesIc (w w' : World) (m : Ic) (Ab : Option Addr) (cb : Nat) : Prop where
  is : IcIn w' w'.heap.size m Ab cb
  below : Below w.heap.size w w'
def ParsedI (w : World) (q : Int × Ic) (e : Ending) (w' : World) : Prop := ∃ Ab cb, e = .returned (.tuple #[icV q.2 Ab cb, .int .i64 q.1]) ∧ GivesIc w w' q.2 Ab cb
theorem parsedI_err {w w' : World} {q : Int × Ic} {e : Ending} {n : Int} (hq : q = (n, Ic.empty)) (he : e = .returned (.tuple #[.agg #[.int .i64 0, .int .i64 0, .int .u32 0, .slice none 0 0], .int .i64 n])) (h : Below w.heap.size w w') : ParsedI w q e w' := by
  subst hq
  exact ⟨none, 0, he, icIn_empty, h⟩
theorem parsedI_ok {w w' : World} {q : Int × Ic} {e : Ending} {m : Ic} {Ab : Option Addr} {cb : Nat} (hq : q = (0, m)) (he : e = .returned (.tuple #[icV m Ab cb, .int .i64 0])) (h : GivesIc w w' m Ab cb) : ParsedI w q e w' := by
  subst hq
  exact ⟨Ab, cb, he, h⟩
/-- a world in which an empty message lies in the newest block. -/
abbrev Zi (w : World) : World := w.alloc (.cells #[.int .i64 0, .int .i64 0, .int .u32 0, .slice none 0 0] 25)
theorem zi_is (w : World) : w.alloc (.cells #[.int .i64 0, .int .i64 0, .int .u32 0, .slice none 0 0] 25) = Zi w := rfl
theorem Zi.below {w X : World} (x : Below (w.heap.size + 1) (Zi w) X) : Below w.heap.size w X := ((Below.refl _ _).alloc (Nat.le_refl _) _).trans (x.mono (Nat.le_succ _))
theorem Zi.size {w X : World} (x : Below (w.heap.size + 1) (Zi w) X) : w.heap.size + 1 ≤ X.heap.size := by have := x.size; simpa using this
theorem zi_of {w w' : World} (h : Below (w.heap.size + 1) (Zi w) w') :
    (w'.cell? ⟨w.heap.size, 0, none⟩ = some (.int .i64 0) ∧ w'.cell? ⟨w.heap.size, 1, none⟩ = some (.int .i64 0) ∧ w'.cell? ⟨w.heap.size, 2, none⟩ = some (.int .u32 0) ∧ w'.cell? ⟨w.heap.size, 3, none⟩ = some (.slice none 0 0)) ∧
    (∀ o, w'.frozen? ⟨w.heap.size, o, none⟩ = false) := by
  have hc := fun (o : Nat) => Below.cell h (p := ⟨w.heap.size, o, none⟩) (Nat.lt_succ_self _)
  refine ⟨⟨?_, ?_, ?_, ?_⟩, fun o => ?_⟩
  · refine (hc _).trans ?_; simp [go_sem]
  · refine (hc _).trans ?_; simp [go_sem]
  · refine (hc _).trans ?_; simp [go_sem]
  · refine (hc _).trans ?_; simp [go_sem]
  · refine (Below.frozen h (p := ⟨w.heap.size, o, none⟩) (Nat.lt_succ_self _)).trans ?_; simp [go_sem]
/-- four cells of block g are put. -/
abbrev set4 (w : World) (g : Nat) (u0 u1 u2 u3 : Value) : World := ((((w.setCell ⟨g, 0, none⟩ u0).setCell ⟨g, 1, none⟩ u1).setCell ⟨g, 2, none⟩ u2).setCell ⟨g, 3, none⟩ u3)
theorem below_s4 {C g : Nat} {a w : World} (h : Below C a w) (hg : C ≤ g) (u0 u1 u2 u3 : Value) : Below C a (set4 w g u0 u1 u2 u3) := (Below.setCell (Below.setCell (Below.setCell (Below.setCell h (p := ⟨g, 0, none⟩) hg u0) (p := ⟨g, 1, none⟩) hg u1) (p := ⟨g, 2, none⟩) hg u2) (p := ⟨g, 3, none⟩) hg u3)
theorem size_s4 (w : World) (g : Nat) (u0 u1 u2 u3 : Value) : (set4 w g u0 u1 u2 u3).heap.size = w.heap.size := by simp [set4]
theorem bs_far {w : World} {B : Nat} {A : Option Addr} {l : List UInt8} (h : Bs w B A l) {g : Nat} (hg : ∀ ad, A = some ad → g < ad.block) (k : Nat) (u : Value) : Bs (w.setCell ⟨g, k, none⟩ u) B A l := by
  rcases h with h | ⟨ad, rfl, hlt, hc⟩
  · exact .inl h
  · have hg := hg ad rfl
    refine .inr ⟨ad, rfl, hlt, fun j b hj => ?_⟩
    rw [World.cell?_setCell_other w _ _ u (fun e => by have := congrArg Addr.block e; simp [block_add] at this; omega)]
    exact hc j b hj
theorem bs_s4 {w : World} {B : Nat} {A : Option Addr} {l : List UInt8} (h : Bs w B A l) {g : Nat} (hg : ∀ ad, A = some ad → g < ad.block) (u0 u1 u2 u3 : Value) : Bs (set4 w g u0 u1 u2 u3) B A l :=
  bs_far (bs_far (bs_far (bs_far h hg 0 u0) hg 1 u1) hg 2 u2) hg 3 u3
/-- a message that lies in the block just behind. -/
theorem gives_s4 {w Y : World} {m : Ic} {Ab : Option Addr} {cb : Nat} (h : IcIn Y Y.heap.size m Ab cb) (hf : ∀ ad, Ab = some ad → w.heap.size < ad.block) (hb : Below w.heap.size w Y) (u0 u1 u2 u3 : Value) : GivesIc w (set4 Y w.heap.size u0 u1 u2 u3) m Ab cb := by
  refine ⟨⟨h.r0, h.r1, h.blen, h.bcap, h.bnil, ?_⟩, below_s4 hb (Nat.le_refl _) _ _ _ _⟩
  rw [size_s4]
  exact bs_s4 h.bs hf _ _ _ _
end Go.Proofs.Ytndhiopfkgdhcaa
