/- The library's heap over a list of alarms in memory: up, down, whatever the memory is. -/
import Derived.Test.YtebmomanpkmloaaHeapPlain
import Derived.Test.YtebmomanpkmloaaWheelC
namespace Go.Proofs.Ytebmomanpkmloaa
open Go.ChangeShapes Go.WideShapes Go.ChangeAt Go.RowKit
set_option linter.unusedVariables false
set_option linter.unusedSimpArgs false

/-- what lies behind the library's heap at an address: a list of alarms that can be asked and swapped. -/
structure HeapC (ad : Addr) where
  Rep : World → List Al → (Nat → Prop) → Prop
  size : ∀ {w l F}, Rep w l F → l.length ≤ 256
  lt : ∀ {w l F}, Rep w l F → ∀ b, F b → b < w.heap.size
  keep : ∀ {w w' l F}, Rep w l F → (∀ b, F b → w'.heap[b]? = w.heap[b]?) → w.heap.size ≤ w'.heap.size → Rep w' l F
  less : ∀ {w l F}, Rep w l F → ∀ (i j : Nat) (q : Bool), i < l.length → j < l.length → ltA (atA l i) (atA l j) = q → Calls Try.prog 47 #[.pointer (some ad), .int .i64 i, .int .i64 j] w fun e w' => e = .returned (.bool q) ∧ Below w.heap.size w w'
  swap : ∀ {w l F}, Rep w l F → ∀ (i j : Nat), i < l.length → j < l.length → Calls Try.prog 50 #[.pointer (some ad), .int .i64 i, .int .i64 j] w fun e w' => e = .returned (.tuple #[]) ∧ Rep w' (swA l i j) F ∧ Moves w w' F
theorem meth_less (ad : Addr) (n : Nat) (w : World) : (method (n + 9) 71 (.pointer (some ad)) "Less").run Try.prog w = .ok (47, .pointer (some ad)) w := by kernel_rfl
theorem meth_swap (ad : Addr) (n : Nat) (w : World) : (method (n + 9) 71 (.pointer (some ad)) "Swap").run Try.prog w = .ok (50, .pointer (some ad)) w := by kernel_rfl
section
variable {ad : Addr} (K : HeapC ad)
theorem HeapC.at {K : HeapC ad} {w w' : World} {l : List Al} {F : Nat → Prop} (h : K.Rep w l F) (y : Below w.heap.size w w') : K.Rep w' l F := K.keep h (fun b hb => y.block b (K.lt h b hb)) y.size
set_option maxRecDepth 100000 in
set_option maxHeartbeats 4000000 in
theorem hup (l : List Al) (F : Nat → Prop) (j n : Nat) (w : World) (h : K.Rep w l F) (hn : n ≤ l.length) (hj : j < n) (hu : UpA l n j) :
    Calls Try.prog 29 #[.iface 71 (.pointer (some ad)), .int .i64 j] w fun e w' => e = .returned (.tuple #[]) ∧ ∃ l', K.Rep w' l' F ∧ Moves w w' F ∧ OrdA n l l' ∧ HeapA l' n := by
  have HK := Go.Lib.hid h
  have HU := Go.Lib.hid hu
  have hsz := K.size h
  clear h hu
  have mL := meth_less ad
  have mS := meth_swap ad
  go_enter Try.func29, Try.ntmps29
  go_wp2_with fail
  go_loopw [1] (fun x wr => ∃ (i : Nat) (lc : List Al), x = .int .i64 i ∧ i < n ∧ Hid (K.Rep wr lc F ∧ UpA lc n i ∧ OrdA n l lc ∧ Moves w wr F)) (fun x _ => (intOf x).toNat)
  case atStart => exact ⟨j, l, rfl, hj, Go.Lib.hid ⟨HK.out, HU.out, OrdA.refl _ _, Moves.refl _ _⟩⟩
  case round =>
    rename World => wo
    obtain ⟨i, lc, rfl, hi, HI⟩ := hrel
    obtain ⟨hr, hu, ho, hm⟩ := HI.out
    have HR := Go.Lib.hid hr
    have HO := Go.Lib.hid ho
    have HM := Go.Lib.hid hm
    have HU2 := Go.Lib.hid hu
    have hlc := ho.len
    clear hr hu ho hm HI
    by_cases h0 : i = 0
    · subst h0
      have HP : Hid (HeapA lc n) := Go.Lib.hid HU2.out.top
      go_wp2
      refine bodyPost_end (results_none rfl _ _ _) rfl ?_
      exact ⟨rfl, lc, HR.out, HM.out, HO.out, HP.out⟩
    · have hp := par_lt (show 0 < i by omega)
      obtain ⟨p, hpe⟩ : ∃ p, parA i = p := ⟨_, rfl⟩
      have HPE := Go.Lib.hid hpe
      rw [hpe] at hp
      have e1 : IntKind.i64.wrap ((i : Int) - 1) = (i : Int) - 1 := IntWalk.i64_in _ (by omega)
      have e2 : Int.tdiv ((i : Int) - 1) 2 = (p : Nat) := by rw [Int.tdiv_eq_ediv_of_nonneg (by omega), ← hpe]; unfold parA; omega
      have e3 : IntKind.i64.wrap (Int.tdiv ((i : Int) - 1) 2) = (p : Nat) := by rw [e2]; exact IntWalk.i64_in _ (by omega)
      have e4 : IntKind.i64.wrap ((p : Nat) : Int) = (p : Nat) := IntWalk.i64_in _ (by omega)
      have t0 : ((p : Int) == (i : Int)) = false := by simp; omega
      obtain ⟨q, hq⟩ : ∃ q, ltA (atA lc i) (atA lc p) = q := ⟨_, rfl⟩
      have HQ := Go.Lib.hid hq
      clear hpe hq
      cases q
      · have HP : Hid (HeapA lc n) := Go.Lib.hid (HU2.out.stop (by rw [HPE.out]; exact not_lt HQ.out))
        go_wp2_with (go_at_call 47; refine (K.less HR.out i p false (by omega) (by omega) HQ.out).mono ?_; rintro e w1 ⟨rfl, y1⟩; dsimp only)
        go_end0
        exact ⟨rfl, lc, HeapC.at HR.out y1, HM.out.trans (moves_below y1), HO.out, HP.out⟩
      · have HS : Hid (UpA (swA lc p i) n p) := Go.Lib.hid (by
          have := HU2.out.step (by omega) hi (by omega) (by rw [HPE.out]; exact HQ.out)
          rwa [HPE.out] at this)
        go_wp2_with (first
          | (go_at_call 47; refine (K.less HR.out i p true (by omega) (by omega) HQ.out).mono ?_; rintro e w1 ⟨rfl, y1⟩; dsimp only)
          | (go_at_call 50; refine (K.swap (HeapC.at HR.out y1) p i (by omega) (by omega)).mono ?_; rintro e w2 ⟨rfl, r2, m2⟩; have HR2 := Go.Lib.hid r2; clear r2; dsimp only))
        go_round
        case rel => exact ⟨p, _, rfl, by omega, Go.Lib.hid ⟨HR2.out, HS.out, HO.out.swap (by omega) hi hn, HM.out.trans ((moves_below y1).trans m2)⟩⟩
        case measure => simp [intOf]; omega
end
end Go.Proofs.Ytebmomanpkmloaa
