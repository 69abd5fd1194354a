/- The contract of bytes.Equal. -/
import Derived.Test.YtndhiopfkgdhcaaRows
import Derived.WalkKit
import Derived.ProofKit
import Derived.OpenShut
import Derived.Below
import Derived.Deep.QuietTactic
import Derived.Deep.RegionHeld3
import Derived.BigQuiet
import Derived.OwnWalk
import Derived.Test.YtndhiopfkgdhcaaMem
import Derived.Laws.BytesString
namespace Go.Proofs.Ytndhiopfkgdhcaa
open Go.ChangeShapes Go.WideShapes Go.ChangeAt Go.RowKit
set_option linter.unusedVariables false

/-- the string of these bytes. -/
def strB (l : List UInt8) : ByteArray := (l.map fun b => (b.toNat : Int)).foldl (fun r n => r.push (UInt8.ofNat n.toNat)) ByteArray.empty
theorem push_data (l : List UInt8) : ∀ r : ByteArray, ((l.map fun b => (b.toNat : Int)).foldl (fun r n => r.push (UInt8.ofNat n.toNat)) r).data.toList = r.data.toList ++ l := by
  induction l with
  | nil => intro r; simp
  | cons a l ih =>
    intro r
    simp only [List.map_cons, List.foldl_cons]
    rw [ih]
    simp [ByteArray.push]
theorem strB_data (l : List UInt8) : (strB l).data.toList = l := by
  unfold strB
  rw [push_data]
  rfl
theorem strB_eq (a b : List UInt8) : ((strB a).toList == (strB b).toList) = (a == b) := by
  rw [ByteArray.toList_eq, ByteArray.toList_eq, strB_data, strB_data]

theorem conv_bytes (A : Option Addr) (n c : Nat) (l : List UInt8) (B : Nat) (w : World) (hn : l.length = n) (h : Bs w B A l) :
    (convert 23 9 (.slice A n c)).run Try.prog w = .ok (.string (strB l)) w := by
  subst hn
  rw [run_convert_bytes_string w _ _ 5 A l.length c Try.underlying23 Try.underlying5 Try.underlying9]
  rcases A with _ | ad
  · have hl : l = [] := by
      rcases h with h | ⟨ad, h, _⟩
      · exact h
      · cases h
    subst hl
    simp [Conv.bytesToString, strB]
  · have := run_bytesToString (P := Try.prog) w ad l.length c (l.map fun b => (b.toNat : Int)) ?_
    · exact this
    · have hr := run_loadCells_list (P := Try.prog) w ad ((l.map fun b => (b.toNat : Int)).map (Value.int .u8)) (fun j v hj => by
        rcases h with h | ⟨ad', e, _, hc⟩
        · subst h; simp at hj
        · cases e
          rw [List.map_map, List.getElem?_map, Option.map_eq_some_iff] at hj
          obtain ⟨b, hb, rfl⟩ := hj
          exact hc j b hb)
      simpa using hr

set_option maxHeartbeats 400000 in
theorem cequal (A : Option Addr) (n c : Nat) (a : List UInt8) (A' : Option Addr) (n' c' : Nat) (b : List UInt8) (B B' : Nat) (w : World) (hn : a.length = n) (hn' : b.length = n') (h : Bs w B A a) (h' : Bs w B' A' b) :
    Calls Try.prog 35 #[.slice A n c, .slice A' n' c'] w fun e w' => e = .returned (.bool (a == b)) ∧ w = w' := by
  have e1 := conv_bytes A n c a B w hn h
  have e2 := conv_bytes A' n' c' b B' w hn' h'
  have HE := Go.Lib.hid (strB_eq a b)
  clear h h' hn hn'
  generalize strB a = s at *
  generalize strB b = t at *
  go_enter Try.func35, Try.ntmps35
  go_wp2
  go_ret
  exact ⟨ret_bool HE.out, rfl⟩
end Go.Proofs.Ytndhiopfkgdhcaa
