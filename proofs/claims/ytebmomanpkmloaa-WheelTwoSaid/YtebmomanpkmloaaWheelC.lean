/- What package wheel's functions owe, over whatever a wheel is in memory; rows of numbers. -/
import Derived.Test.YtebmomanpkmloaaWheelPlain2
import Derived.Test.YtebmomanpkmloaaMoves
namespace Go.Proofs.Ytebmomanpkmloaa
open Go.ChangeShapes Go.WideShapes Go.ChangeAt Go.RowKit
set_option linter.unusedVariables false
set_option linter.unusedSimpArgs false

/-- numbers of a kind in a row. -/
structure InsAt (k : IntKind) (w : World) (l : List Int) (A : Option Addr) (c : Nat) : Prop where
  len : l.length ≤ c
  cap : c ≤ 9223372036854775807
  nil : A = none → c = 0
  rd : RdC w A (l.map (fun n => Value.int k n))
section
variable {k : IntKind} {w w' : World} {l : List Int} {A : Option Addr} {c : Nat}
theorem InsAt.keep (h : InsAt k w l A c) (y : Below w.heap.size w w') : InsAt k w' l A c := ⟨h.len, h.cap, h.nil, h.rd.keep y⟩
theorem InsAt.cell (h : InsAt k w l A c) {i : Nat} (hi : i < l.length) : ∃ ad, A = some ad ∧ ∀ Y, Below w.heap.size w Y → Y.cell? (ad.add i) = some (.int k l[i]) := by
  rcases h.rd with h0 | ⟨ad, e, hc⟩
  · have := congrArg List.length h0
    simp at this
    subst this
    simp at hi
  · refine ⟨ad, e, fun Y y => ?_⟩
    have h2 := hc i (.int k l[i]) (by simp [hi])
    exact (y.cell (World.block_lt_of_cell? w _ h2)).trans h2
theorem InsAt.keepB (h : InsAt k w l A c) (hk : ∀ ad, A = some ad → w'.heap[ad.block]? = w.heap[ad.block]?) : InsAt k w' l A c := by
  refine ⟨h.len, h.cap, h.nil, ?_⟩
  rcases h.rd with h0 | ⟨ad, e, hc⟩
  · exact .inl h0
  · refine .inr ⟨ad, e, fun j u hj => ?_⟩
    have q := World.cell?_of_block (w := w) (w' := w') (a := ad.add j) (by rw [block_add]; exact hk ad e)
    rw [q]
    exact hc j u hj
/-- its first ones. -/
theorem InsAt.take (h : InsAt k w l A c) (n : Nat) : InsAt k w (l.take n) A c := by
  refine ⟨by rw [List.length_take]; have := h.len; omega, h.cap, h.nil, ?_⟩
  rcases h.rd with h0 | ⟨ad, e, hc⟩
  · left
    have := congrArg List.length h0
    simp at this
    subst this
    simp
  · refine .inr ⟨ad, e, fun j u hj => hc j u ?_⟩
    rw [List.map_take, List.getElem?_take] at hj
    split at hj
    · exact hj
    · cases hj
end
/-- what is due is answered in memory of its own. -/
structure DueAt (w w' : World) (F' : Nat → Prop) (l : List Int) (A : Option Addr) (c : Nat) : Prop where
  ins : InsAt .i64 w' l A c
  apart : ∀ ad, A = some ad → w.heap.size ≤ ad.block ∧ ad.block < w'.heap.size ∧ ¬ F' ad.block
/-- what a wheel is in memory, and what its functions owe. -/
structure WheelC where
  Rep : World → Addr → Wh → (Nat → Prop) → Prop
  right : ∀ {w ad x F}, Rep w ad x F → RightW x
  lt : ∀ {w ad x F}, Rep w ad x F → ∀ b, F b → b < w.heap.size
  keep : ∀ {w w' ad x F}, Rep w ad x F → (∀ b, F b → w'.heap[b]? = w.heap[b]?) → w.heap.size ≤ w'.heap.size → Rep w' ad x F
  new : ∀ w, Calls Try.prog 8 #[] w fun e w' => ∃ ad F, e = .returned (.pointer (some ad)) ∧ Rep w' ad wh0 F ∧ (∀ b, F b → w.heap.size ≤ b) ∧ Below w.heap.size w w'
  set : ∀ {w ad x F}, Rep w ad x F → ∀ (n t : Int) (q : Wh × Int), setH x n t = q → Calls Try.prog 10 #[.pointer (some ad), .int .i64 n, .int .i64 t] w fun e w' => ∃ F', e = .returned (.int .i64 q.2) ∧ Rep w' ad q.1 F' ∧ Newer w F F' ∧ Moves w w' F
  drop : ∀ {w ad x F}, Rep w ad x F → ∀ (n : Int), I64 n → ∀ (q : Wh × Int), dropH x n = q → Calls Try.prog 12 #[.pointer (some ad), .int .i64 n] w fun e w' => ∃ F', e = .returned (.int .i64 q.2) ∧ Rep w' ad q.1 F' ∧ Newer w F F' ∧ Moves w w' F
  tick : ∀ {w ad x F}, Rep w ad x F → ∀ (now : Int) (q : Wh × List Int × Int), tickH x now = q → Calls Try.prog 14 #[.pointer (some ad), .int .i64 now] w fun e w' => ∃ F' A c, e = .returned (.tuple #[.slice A q.2.1.length c, .int .i64 q.2.2]) ∧ DueAt w w' F' q.2.1 A c ∧ Rep w' ad q.1 F' ∧ Newer w F F' ∧ Moves w w' F
  when_ : ∀ {w ad x F}, Rep w ad x F → ∀ (n : Int), I64 n → ∀ (q : Int × Bool), whenH x n = q → Calls Try.prog 16 #[.pointer (some ad), .int .i64 n] w fun e w' => e = .returned (.tuple #[.int .i64 q.1, .bool q.2]) ∧ Below w.heap.size w w'
  waits : ∀ {w ad x F}, Rep w ad x F → ∀ (n : Int), (x.list.length : Int) = n → Calls Try.prog 18 #[.pointer (some ad)] w fun e w' => e = .returned (.int .i64 n) ∧ Below w.heap.size w w'
  now_ : ∀ {w ad x F}, Rep w ad x F → ∀ (n : Int), x.now = n → Calls Try.prog 19 #[.pointer (some ad)] w fun e w' => e = .returned (.int .i64 n) ∧ Below w.heap.size w w'
/-- a wheel in a law's hands. -/
structure WhI (K : WheelC) (w0 : World) (ad : Addr) (x : Wh) (F : Nat → Prop) (wr : World) : Prop where
  rep : K.Rep wr ad x F
  ge : ∀ b, F b → w0.heap.size ≤ b
  below : Below w0.heap.size w0 wr
section
variable {K : WheelC} {w0 wr wx : World} {ad : Addr} {x x' : Wh} {F F' : Nat → Prop}
theorem WhI.call (h : WhI K w0 ad x F wr) (y : Below wr.heap.size wr wx) : WhI K w0 ad x F wx :=
  ⟨K.keep h.rep (fun b hb => y.block b (K.lt h.rep b hb)) y.size, h.ge, h.below.trans (y.mono h.below.size)⟩
theorem WhI.turn (h : WhI K w0 ad x F wr) (r : K.Rep wx ad x' F') (n : Newer wr F F') (m : Moves wr wx F) : WhI K w0 ad x' F' wx :=
  ⟨r, fun b hb => (n b hb).elim (fun q => h.ge b q) (fun q => Nat.le_trans h.below.size q), h.below.trans (m.below h.ge h.below.size)⟩
theorem WhI.made (hb : Below w0.heap.size w0 wr) (r : K.Rep wx ad wh0 F) (n : ∀ b, F b → wr.heap.size ≤ b) (y : Below wr.heap.size wr wx) : WhI K w0 ad wh0 F wx :=
  ⟨r, fun b hf => Nat.le_trans hb.size (n b hf), hb.trans (y.mono hb.size)⟩
end
def AwakeC11 : Prop := ∀ w, Calls Try.prog 7 #[] w fun e w' => e = .returned (.bool true) ∧ Below w.heap.size w w'
end Go.Proofs.Ytebmomanpkmloaa
