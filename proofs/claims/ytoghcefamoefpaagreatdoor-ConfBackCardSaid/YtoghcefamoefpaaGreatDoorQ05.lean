/- Lemmas, several texts in one. -/
import Derived.Test.YtoghcefamoefpaaGreatDoorQ02
import Derived.Test.YtoghcefamoefpaaGreatDoorQ03
import Derived.Test.YtoghcefamoefpaaGreatDoorQ04
import Derived.Test.YtoghcefamoefpaaGreatDoorQ01
import Derived.Lib.Split
import Derived.RangeFuncOwn
/- The landed conf: a number, an address of a word. -/
namespace Go.Proofs.YtoghcefamoefpaaGreatDoor
open Go.ChangeShapes Go.WideShapes Go.ChangeAt Go.RowKit
set_option linter.unusedVariables false
set_option linter.unusedSimpArgs false

theorem txB_mk (l : Tx) : txB ⟨l.toArray⟩ = l := by simp [txB]
theorem txB_at (s : ByteArray) (i : Nat) (h : i < s.size) : (txB s)[i]? = some s[i] := by
  unfold txB
  rw [Array.getElem?_toList]
  exact Array.getElem?_eq_getElem h
theorem ctrim15 (s p : ByteArray) (w : World) : Calls Tryz.prog 94 #[.string s, .string p] w fun e w' => (∃ D : ByteArray, e = .returned (.string D) ∧ txB D = Lib.trimPrefix (txB s) (txB p)) ∧ w' = w :=
  (Tryz.strings_TrimPrefix s p w).mono fun e w' ⟨he, hw⟩ => ⟨⟨_, he, txB_mk _⟩, hw⟩
theorem cpre15 (s p : ByteArray) (w : World) (q : Bool) (hq : Lib.hasPrefix (txB s) (txB p) = q) : Calls Tryz.prog 37 #[.string s, .string p] w fun e w' => e = .returned (.bool q) ∧ w' = w :=
  (Tryz.strings_HasPrefix s p w).mono fun e w' ⟨he, hw⟩ => ⟨by rw [he, ← hq]; rfl, hw⟩
theorem below_bytes (w : World) (t : ByteArray) (e : TypeId) : Below w.heap.size w (Lib.bytesWorld w e t) := by
  refine ⟨rfl, rfl, rfl, ?_, fun k hk => ?_⟩
  · simp [Lib.bytesWorld, World.freeze, World.alloc, World.drew, -World.alloc_eq, -World.drew_eq]
  · simp [Lib.bytesWorld, World.freeze, World.alloc, World.drew, -World.alloc_eq, -World.drew_eq]
    rw [Array.getElem?_modify, if_neg (by omega)]
    rw [Array.getElem?_push, if_neg (by omega)]
theorem cparse15 (s : ByteArray) (hs : s.size ≤ 1000000) (w : World) (ht : Tb w) (q : Option Int) (hq : parL (txB s) = q) : Calls Tryz.prog 95 #[.string s, .int .i64 10, .int .i64 32] w fun e w' => (match q with
    | some v => e = .returned (.tuple #[.int .i64 v, .nilIface])
    | none => ∃ n t p, e = .returned (.tuple #[.int .i64 n, .iface t p])) ∧ Below w.heap.size w w' := by
  unfold parL at hq
  rcases hp : Lib.parseIntB 32 (txB s) with v | _ | _
  · skip
    rw [hp] at hq
    subst hq
    refine (Tryz.strconv_ParseInt_10_at32_ok s (by omega) v hp w).mono fun e w' ⟨he, hw⟩ => ⟨he, ?_⟩
    rcases hw with rfl | ⟨t, rfl⟩
    · exact Below.refl _ _
    · exact below_bytes _ _ _
  · skip
    rw [hp] at hq
    subst hq
    obtain ⟨tp, p, hes⟩ := ht.es
    exact (Any.strconv_ParseInt_10_at32_syntax Tryz.laysC174 s (by omega) hp _ w hes (.inr ⟨_, _, rfl⟩)).mono fun e w' ⟨N, he, _, _, hb⟩ => ⟨⟨_, _, _, he⟩, hb⟩
  · skip
    rw [hp] at hq
    subst hq
    obtain ⟨tp, p, hes⟩ := ht.er
    exact (Tryz.strconv_ParseInt_10_at32_range s (by omega) hp _ w hes (.inr ⟨_, _, rfl⟩)).mono fun e w' ⟨N, he, _, _, hb⟩ => ⟨⟨_, _, _, he⟩, hb⟩
theorem byte_eq (c : UInt8) : (((c.toNat : Int)) == 48) = (some c == some 48) := by
  by_cases h : c = 48
  · subst h; rfl
  · have h1 : (c.toNat : Int) ≠ 48 := fun e => h (UInt8.toNat_inj.1 (by show c.toNat = 48; omega))
    rw [beq_eq_false_iff_ne.2 h1]
    exact (beq_eq_false_iff_ne.2 (fun e => h (Option.some.inj e))).symm
set_option maxRecDepth 100000 in
set_option maxHeartbeats 4000000 in
theorem cnum15 (s : ByteArray) (hs : s.size ≤ 1000000) (w : World) (ht : Tb w) (q : Option Int) (hq : numP (txB s) = q) :
    Calls Tryz.prog 87 #[.string s] w fun e w' => e = .returned (.tuple #[.int .i64 (q.getD 0), .bool q.isSome]) ∧ Below w.heap.size w w' := by
  obtain ⟨b, hb⟩ : ∃ b, Lib.hasPrefix (txB s) [43] = b := ⟨_, rfl⟩
  obtain ⟨d, hd⟩ : ∃ d, needL (txB s) = d := ⟨_, rfl⟩
  obtain ⟨r, hr⟩ : ∃ r, parL (txB s) = r := ⟨_, rfl⟩
  rw [num_lib, hb, hd, hr] at hq
  have HS := Go.Lib.hid hs
  have HT := Go.Lib.hid ht
  have HB := Go.Lib.hid hb
  have HR := Go.Lib.hid hr
  have HQ := Go.Lib.hid hq
  unfold needL at hd
  clear hs ht hb hr hq
  go_enter Tryz.func87, Tryz.ntmps87
  go_upto_region 2 with (go_at_call 94; refine (ctrim15 s _ w).mono ?_; rintro e w2 ⟨⟨D, rfl, hD⟩, rfl⟩; dsimp only)
  have hd' : (decide (1 < D.size) && (txB D).head? == some 48) = d := by rw [← hd, ← txB_len, hD]; rfl
  clear hd hD
  go_cut [5] (fun s2 wx => s2 = .bool d ∧ wx = w2)
  case first =>
    by_cases h1 : 1 < D.size
    · have t1 : (1 : Int) < (D.size : Int) := by omega
      have t2 : (0 : Int) < (D.size : Int) := by omega
      have h0 : 0 < D.size := by omega
      rw [decide_eq_true h1, Bool.true_and, List.head?_eq_getElem?, txB_at D 0 h0] at hd'
      have HD := Go.Lib.hid hd'
      clear hd'
      go_wp2_with fail
      go_meet
      exact ⟨by rw [byte_eq, HD.out], rfl⟩
    · have t1 : ¬ (1 : Int) < (D.size : Int) := by omega
      rw [decide_eq_false h1, Bool.false_and] at hd'
      subst hd'
      go_wp2_with fail
      go_meet
      exact ⟨rfl, rfl⟩
  case rest =>
    cases d
    · cases b
      · cases r with
        | none =>
          have HQ' : Hid (none = q) := HQ
          go_wp2_with (first
            | (go_at_call 37; refine (cpre15 s { data := #[43] } _ _ HB.out).mono ?_; rintro e w3 ⟨rfl, rfl⟩; dsimp only)
            | (go_at_call 95; refine (cparse15 s HS.out _ HT.out _ HR.out).mono ?_; rintro e w3 ⟨⟨n, tt, pp, rfl⟩, y3⟩; dsimp only))
          go_ret2
          exact ⟨by rw [← HQ'.out]; rfl, y3⟩
        | some v =>
          have HQ' : Hid (some v = q) := HQ
          go_wp2_with (first
            | (go_at_call 37; refine (cpre15 s { data := #[43] } _ _ HB.out).mono ?_; rintro e w3 ⟨rfl, rfl⟩; dsimp only)
            | (go_at_call 95; refine (cparse15 s HS.out _ HT.out _ HR.out).mono ?_; rintro e w3 ⟨he, y3⟩; obtain rfl := he; dsimp only))
          go_ret2
          exact ⟨by rw [← HQ'.out]; rfl, y3⟩
      · have HQ' : Hid (none = q) := HQ
        go_wp2_with (go_at_call 37; refine (cpre15 s { data := #[43] } _ _ HB.out).mono ?_; rintro e w3 ⟨rfl, rfl⟩; dsimp only)
        go_ret2
        exact ⟨by rw [← HQ'.out]; rfl, Below.refl _ _⟩
    · have HQ' : Hid (none = q) := HQ
      go_wp2_with fail
      go_ret2
      exact ⟨by rw [← HQ'.out]; rfl, Below.refl _ _⟩
end Go.Proofs.YtoghcefamoefpaaGreatDoor

/- Texts, cut as the library cuts them. -/
namespace Go.Proofs.YtoghcefamoefpaaGreatDoor
set_option linter.unusedVariables false

theorem ix_cases (c : UInt8) : ∀ s : Tx, (Lib.index s [c] = -1 ∧ c ∉ s) ∨ ∃ a b, s = a ++ c :: b ∧ c ∉ a ∧ Lib.index s [c] = (a.length : Int)
  | [] => .inl ⟨rfl, by simp⟩
  | x :: l => by
    rw [Lib.index_one]
    unfold Lib.indexByte
    by_cases h : x = c
    · subst h
      rw [if_pos (by simp)]
      exact .inr ⟨[], l, rfl, by simp, rfl⟩
    · rw [if_neg (by simpa using h)]
      rcases ix_cases c l with ⟨h1, h2⟩ | ⟨a, b, h1, h2, h3⟩
      · rw [Lib.index_one] at h1
        rw [h1, if_pos (by decide)]
        exact .inl ⟨rfl, by simp [h2, Ne.symm h]⟩
      · rw [Lib.index_one] at h3
        rw [h3, if_neg (by simp)]
        exact .inr ⟨x :: a, b, by rw [h1]; rfl, by simp [h2, Ne.symm h], by simp⟩
theorem split_lib (c : UInt8) : ∀ (n : Nat) (s : Tx), s.length ≤ n → Lib.splitK [c] 0 (Lib.count s [c]) s = splitB c s := by
  intro n
  induction n with
  | zero =>
    intro s hs
    obtain rfl : s = [] := List.eq_nil_of_length_eq_zero (by omega)
    rfl
  | succ n ih =>
    intro s hs
    rcases ix_cases c s with ⟨h1, h2⟩ | ⟨a, b, rfl, h2, h3⟩
    · rw [Lib.count_miss h1, split_none h2]
      rfl
    · have hd : (a ++ c :: b).drop (a.length + 1) = b := by
        rw [List.drop_append, List.drop_eq_nil_of_le (by omega), show a.length + 1 - a.length = 1 by omega]
        rfl
      have ht : (a ++ c :: b).take a.length = a := by simp
      rw [Lib.count_hit (by simp) h3, Nat.add_comm 1, split_at b h2]
      unfold Lib.splitK
      rw [h3, if_neg (by simp), Int.toNat_natCast, Nat.add_zero, ht, show ([c] : Tx).length = 1 from rfl, hd]
      rw [ih b (by rw [List.length_append] at hs; simp at hs; omega)]
theorem split_count (c : UInt8) : ∀ (n : Nat) (s : Tx), s.length ≤ n → (splitB c s).length = Lib.count s [c] + 1 := by
  intro n
  induction n with
  | zero =>
    intro s hs
    obtain rfl : s = [] := List.eq_nil_of_length_eq_zero (by omega)
    rfl
  | succ n ih =>
    intro s hs
    rcases ix_cases c s with ⟨h1, h2⟩ | ⟨a, b, rfl, h2, h3⟩
    · rw [Lib.count_miss h1, split_none h2]
      rfl
    · have hd : (a ++ c :: b).drop (a.length + 1) = b := by
        rw [List.drop_append, List.drop_eq_nil_of_le (by omega), show a.length + 1 - a.length = 1 by omega]
        rfl
      rw [Lib.count_hit (by simp) h3, split_at b h2, show ([c] : Tx).length = 1 from rfl, hd, List.length_cons, ih b (by rw [List.length_append] at hs; simp at hs; omega)]
      omega
theorem cut_lib (c : UInt8) (s : Tx) : (c ∉ s ∧ Lib.cut s [c] = (s, [], false)) ∨ ∃ a b, s = a ++ c :: b ∧ c ∉ a ∧ Lib.cut s [c] = (a, b, true) := by
  rcases ix_cases c s with ⟨h1, h2⟩ | ⟨a, b, rfl, h2, h3⟩
  · left
    refine ⟨h2, ?_⟩
    unfold Lib.cut
    rw [h1, if_neg (by decide)]
  · right
    refine ⟨a, b, rfl, h2, ?_⟩
    have hd : (a ++ c :: b).drop (a.length + 1) = b := by
      rw [List.drop_append, List.drop_eq_nil_of_le (by omega), show a.length + 1 - a.length = 1 by omega]
      rfl
    have ht : (a ++ c :: b).take a.length = a := by simp
    unfold Lib.cut
    rw [h3, if_pos (by omega), Int.toNat_natCast, ht, show ([c] : Tx).length = 1 from rfl, hd]
theorem digP_no {m : Bool} {c : UInt8} {s : Tx} (h : c ∈ s) (hc : isD c = false) : digP m s = none := by
  unfold digP
  split
  · rfl
  · rw [if_neg (fun ha => by
      have := List.all_eq_true.1 ha c h
      rw [hc] at this
      cases this)]
theorem numP_no {c : UInt8} {s : Tx} (h : c ∈ s) (h45 : c ≠ 45) (hc : isD c = false) : numP s = none := by
  unfold numP
  split
  · rcases List.mem_cons.1 h with q | q
    · exact absurd q h45
    · exact digP_no q hc
  · exact digP_no h hc
theorem net_cut (s : Tx) : netP s = match addrP (Lib.cut s [47]).1, numP (Lib.cut s [47]).2.1 with
    | some n, some k => some (n, k)
    | _, _ => none := by
  rcases cut_lib 47 s with ⟨h1, h2⟩ | ⟨a, b, rfl, h2, h3⟩
  · rw [h2]
    unfold netP
    rw [split_none h1]
    dsimp only
    rw [show numP [] = none from rfl]
    cases addrP s <;> rfl
  · rw [h3]
    unfold netP
    rw [split_at b h2]
    by_cases hb : (47 : UInt8) ∈ b
    · rcases cut_lib 47 b with ⟨q, _⟩ | ⟨x, y, rfl, q1, _⟩
      · exact absurd hb q
      · rw [split_at y q1]
        obtain ⟨z, t, hz⟩ : ∃ z t, splitB 47 y = z :: t := by
          cases hq : splitB 47 y with
          | nil => exact absurd hq (split_ne _ _)
          | cons z t => exact ⟨z, t, rfl⟩
        rw [hz]
        dsimp only
        rw [numP_no hb (by decide) (by decide)]
        cases addrP a <;> rfl
    · rw [split_none hb]
      rfl
end Go.Proofs.YtoghcefamoefpaaGreatDoor

/- The landed conf: an address of a word; a text cut. -/
namespace Go.Proofs.YtoghcefamoefpaaGreatDoor
open Go.ChangeShapes Go.WideShapes Go.ChangeAt Go.RowKit
set_option linter.unusedVariables false
set_option linter.unusedSimpArgs false

theorem ccut15 (s : ByteArray) (hs : s.size ≤ 1000000) (w : World) (ht : Tb w) : Calls Tryz.prog 83 #[.string s, .string { data := #[47] }] w fun e w' => (∃ (A B : ByteArray) (k : Bool), e = .returned (.tuple #[.string A, .string B, .bool k]) ∧ txB A = (Lib.cut (txB s) [47]).1 ∧ txB B = (Lib.cut (txB s) [47]).2.1) ∧ ∃ n, w' = w.drewN n := by
  obtain ⟨m, hm⟩ := ht.mx
  exact (Tryz.strings_Cut s { data := #[47] } m w (by omega) hm).mono fun e w' ⟨he, hw⟩ => ⟨⟨_, _, _, he, txB_mk _, txB_mk _⟩, hw⟩
/-- a row of texts. -/
structure StsAt (w : World) (l : List ByteArray) (A : Option Addr) (c : Nat) : Prop where
  len : l.length ≤ c
  cap : c ≤ 9223372036854775807
  nil : A = none → c = 0
  rd : RdC w A (l.map Value.string)
theorem StsAt.at {w w' : World} {l : List ByteArray} {A : Option Addr} {c : Nat} (h : StsAt w l A c) (y : Below w.heap.size w w') : StsAt w' l A c := ⟨h.len, h.cap, h.nil, h.rd.keep y⟩
theorem StsAt.cell {w : World} {l : List ByteArray} {A : Option Addr} {c : Nat} (h : StsAt w l A c) {i : Nat} (hi : i < l.length) : ∃ ad, A = some ad ∧ ∀ Y, Below w.heap.size w Y → Y.cell? (ad.add i) = some (.string l[i]) := by
  rcases h.rd with h0 | ⟨ad, e, hc⟩
  · rw [List.map_eq_nil_iff] at h0
    subst h0
    exact absurd hi (by simp)
  · refine ⟨ad, e, fun Y y => ?_⟩
    have h2 := hc i (.string l[i]) (by rw [List.getElem?_map, List.getElem?_eq_getElem hi]; rfl)
    exact (y.cell (World.block_lt_of_cell? w _ h2)).trans h2
theorem csplit15 (s : ByteArray) (hs : s.size ≤ 1000000) (w : World) (ht : Tb w) : Calls Tryz.prog 93 #[.string s, .string { data := #[46] }] w fun e w' => (∃ (A : Option Addr) (l : List ByteArray), e = .returned (.slice A l.length l.length) ∧ StsAt w' l A l.length ∧ l.map txB = splitB 46 (txB s)) ∧ Below w.heap.size w w' := by
  obtain ⟨m, hm⟩ := ht.mx
  refine (Tryz.strings_Split s { data := #[46] } m w (by omega) hm (by decide)).mono fun e w' ⟨he, hw⟩ => ?_
  subst hw
  obtain ⟨l, hl⟩ : ∃ l, Lib.splitB { data := #[46] } 0 (Lib.countB s { data := #[46] }) s = l := ⟨_, rfl⟩
  have hd : l.map txB = splitB 46 (txB s) := by
    rw [← hl]
    exact (Lib.splitB_data _ _ _ _).trans (split_lib 46 _ (txB s) (Nat.le_refl _))
  have hlen : l.length = Lib.countB s { data := #[46] } + 1 := by
    have := split_count 46 _ (txB s) (Nat.le_refl _)
    rw [← hd, List.length_map] at this
    exact this
  rw [hl]
  rw [← hlen] at he
  refine ⟨⟨_, l, he, ⟨Nat.le_refl _, ?_, fun e => (by cases e), .inr ⟨_, rfl, fun j u hj => ?_⟩⟩, hd⟩, (Below.refl _ _).alloc (Nat.le_refl _) _⟩
  · have := Lib.countB_le { data := #[46] } (by decide) s.size s (Nat.le_refl _)
    omega
  · rw [Addr.add_mid, Nat.zero_add, cell_of_row _ _ _ _ _ _ (heap_alloc_new w _)]
    simpa using hj
set_option maxRecDepth 100000 in
set_option maxHeartbeats 1000000 in
theorem cfrom15 (n lo hi : Int) (w : World) (q : Bool) (hq : (decide (lo ≤ n) && decide (n ≤ hi)) = q) :
    Calls Tryz.prog 29 #[.int .i64 n, .int .i64 lo, .int .i64 hi] w fun e w' => e = .returned (.bool q) ∧ w' = w := by
  by_cases h1 : lo ≤ n
  · by_cases h2 : n ≤ hi
    · have e : Hid (q = true) := Go.Lib.hid (by rw [← hq]; simp [h1, h2])
      clear hq
      go_enter Tryz.func29, Tryz.ntmps29
      go_wp2_with fail
      go_ret
      exact ⟨by rw [e.out]; rfl, rfl⟩
    · have e : Hid (q = false) := Go.Lib.hid (by rw [← hq]; simp [h2])
      clear hq
      go_enter Tryz.func29, Tryz.ntmps29
      go_wp2_with fail
      go_ret
      exact ⟨by rw [e.out]; rfl, rfl⟩
  · have e : Hid (q = false) := Go.Lib.hid (by rw [← hq]; simp [h1])
    clear hq
    go_enter Tryz.func29, Tryz.ntmps29
    go_wp2_with fail
    go_ret
    exact ⟨by rw [e.out]; rfl, rfl⟩
end Go.Proofs.YtoghcefamoefpaaGreatDoor

/- The landed conf: an address of a word. -/
namespace Go.Proofs.YtoghcefamoefpaaGreatDoor
open Go.ChangeShapes Go.WideShapes Go.ChangeAt Go.RowKit
set_option linter.unusedVariables false
set_option linter.unusedSimpArgs false

theorem split_len (c : UInt8) : ∀ (s x : Tx), x ∈ splitB c s → x.length ≤ s.length
  | [], x, h => by
    rw [List.mem_singleton.1 (show x ∈ [[]] from h)]
    exact Nat.le_refl _
  | y :: ys, x, h => by
    by_cases hy : y = c
    · rw [splitB, if_pos (by simp [hy])] at h
      rcases List.mem_cons.1 h with rfl | h
      · simp
      · have := split_len c ys x h
        simp
        omega
    · obtain ⟨a, t, h1, h2⟩ := split_cons hy ys
      rw [h2] at h
      rcases List.mem_cons.1 h with rfl | h
      · have := split_len c ys a (by rw [h1]; simp)
        simpa using this
      · have := split_len c ys x (by rw [h1]; simp [h])
        simp
        omega
theorem u32_or8 (a b : Int) (a0 : 0 ≤ a) (a1 : a ≤ 16777215) (b0 : 0 ≤ b) (b1 : b ≤ 255) : bits .or .u32 (a * 256) b = a * 256 + b := by
  rw [u32_or _ _ (by omega) (by omega) b0 (by omega), nat_join 8 _ _ (by omega) (by omega)]
  omega
def adP : List Tx → Int → Option Int
  | [], a => some a
  | s :: r, a => match byteP s with
    | none => none
    | some n => adP r (a * 256 + n)
/-- what an address is behind its first k numbers. -/
structure AdI (l : List ByteArray) (q : Option Int) (k : Nat) (a : Int) : Prop where
  is : adP ((l.map txB).drop k) a = q
  lo : 0 ≤ a
  hi : (k = 0 → a ≤ 0) ∧ (k = 1 → a ≤ 255) ∧ (k = 2 → a ≤ 65535) ∧ (k = 3 → a ≤ 16777215)
theorem addrP_ad (s : Tx) : addrP s = if (splitB 46 s).length = 4 then adP (splitB 46 s) 0 else none := by
  unfold addrP
  split
  · next a b c d h =>
    rw [h, if_pos (by rfl)]
    unfold adP adP adP adP adP
    cases byteP a <;> cases byteP b <;> cases byteP c <;> cases byteP d <;> simp
  · next h =>
    rw [if_neg]
    intro hl
    match hq : splitB 46 s, hl with
    | [a, b, c, d], _ => exact h _ _ _ _ hq
theorem byteP_num15 (s : Tx) : byteP s = match numP s with
    | some n => if decide (0 ≤ n) && decide (n ≤ 255) then some n else none
    | none => none := by
  unfold byteP
  cases numP s with
  | none => rfl
  | some n =>
    dsimp only
    by_cases h : 0 ≤ n ∧ n ≤ 255
    · rw [if_pos h, decide_eq_true h.1, decide_eq_true h.2]; rfl
    · rw [if_neg h, if_neg (by simpa using h)]
set_option maxRecDepth 100000 in
set_option maxHeartbeats 4000000 in
theorem caddr15 (s : ByteArray) (hs : s.size ≤ 1000000) (w : World) (ht : Tb w) (q : Option Int) (hq : addrP (txB s) = q) :
    Calls Tryz.prog 85 #[.string s] w fun e w' => e = .returned (.tuple #[.int .u32 (q.getD 0), .bool q.isSome]) ∧ Below w.heap.size w w' := by
  rw [addrP_ad] at hq
  have HS := Go.Lib.hid hs
  have HT := Go.Lib.hid ht
  have HQ := Go.Lib.hid hq
  clear hs ht hq
  go_enter Tryz.func85, Tryz.ntmps85
  go_upto_region 2 with (go_at_call 93; refine (csplit15 s HS.out w HT.out).mono ?_; rintro e w2 ⟨⟨A, l, rfl, hl, hd⟩, y2⟩; dsimp only)
  have HQ2 : Hid ((if l.length = 4 then adP (l.map txB) 0 else none) = q) := Go.Lib.hid (by rw [← HQ.out, ← hd, List.length_map])
  have HT2 := Go.Lib.hid (HT.out.at y2)
  have HLS : Hid (∀ x ∈ l, x.size ≤ 1000000) := Go.Lib.hid (fun x hx => by
    have h1 := split_len 46 (txB s) (txB x) (by rw [← hd]; exact List.mem_map_of_mem hx)
    have := HS.out
    rw [txB_len, txB_len] at h1
    omega)
  clear HT HQ hd
  obtain ⟨n, hn⟩ : ∃ n, l.length = n := ⟨_, rfl⟩
  rw [hn] at HQ2 ⊢
  by_cases h4 : n = 4
  · have t4 : ((n : Int) != 4) = false := by simp [h4]
    have HL := Go.Lib.hid hl
    have HN := Go.Lib.hid hn
    clear hl hn
    have n4 : n ≤ 4 := by omega
    have HQ3 : Hid (adP (l.map txB) 0 = q) := Go.Lib.hid (by rw [← HQ2.out, if_pos h4])
    clear HQ2
    go_wp2_with fail
    go_loopw [5, 17] (fun av iv wr => ∃ (k : Nat) (a : Int), av = .int .u32 a ∧ iv = .int .i64 k ∧ k ≤ n ∧ Hid (AdI l q k a) ∧ Hid (Below w2.heap.size w2 wr) ∧ Below w.heap.size w wr) (fun _ iv _ => n - (intOf iv).toNat)
    case atStart => exact ⟨0, 0, rfl, rfl, by omega, Go.Lib.hid ⟨HQ3.out, Int.le_refl _, by omega⟩, Go.Lib.hid (Below.refl _ _), y2⟩
    case round =>
      rename World => wo
      obtain ⟨k, a, rfl, rfl, hk, HA, yo2, yo⟩ := hrel
      have k0 : (0 : Int) ≤ (k : Int) := by omega
      by_cases hkl : k < n
      · have t1 : (k : Int) < (n : Int) := by omega
        have hkl' : k < l.length := by have := HN.out; omega
        obtain ⟨ad, rfl, hcell⟩ := HL.out.cell hkl'
        obtain ⟨s1, hs1⟩ : ∃ r, l[k] = r := ⟨_, rfl⟩
        have HSZ : Hid (s1.size ≤ 1000000) := Go.Lib.hid (HLS.out s1 (by rw [← hs1]; exact List.getElem_mem hkl'))
        rw [hs1] at hcell
        have hw := hcell wo yo2.out
        obtain ⟨x, hx⟩ : ∃ x, numP (txB s1) = x := ⟨_, rfl⟩
        have HX := Go.Lib.hid hx
        have HT3 := Go.Lib.hid (HT2.out.at yo2.out)
        have HST : Hid ((match byteP (txB s1) with
          | none => none
          | some n => adP ((l.map txB).drop (k + 1)) (a * 256 + n)) = q) := Go.Lib.hid (by
            rw [← HA.out.is, List.drop_eq_getElem_cons (i := k) (by rw [List.length_map]; exact hkl'), List.getElem_map, hs1]
            rfl)
        clear hcell hs1 hx
        cases x with
        | none =>
          have HQ : Hid (q = none) := Go.Lib.hid (by rw [← HST.out, byteP_num15, HX.out])
          go_wp2_with (go_at_call 87; refine (cnum15 s1 HSZ.out _ HT3.out _ HX.out).mono ?_; rintro e w3 ⟨rfl, y3⟩; have x3 := yo.trans (y3.mono yo.size); dsimp only)
          go_ret2
          exact ⟨by rw [HQ.out]; rfl, x3⟩
        | some v =>
          obtain ⟨r, hr⟩ : ∃ r, (decide ((0 : Int) ≤ v) && decide (v ≤ 255)) = r := ⟨_, rfl⟩
          have HR := Go.Lib.hid hr
          cases r
          · have HQ : Hid (q = none) := Go.Lib.hid (by rw [← HST.out, byteP_num15, HX.out]; dsimp only; rw [HR.out]; rfl)
            clear hr
            go_wp2_with (first
              | (go_at_call 87; refine (cnum15 s1 HSZ.out _ HT3.out _ HX.out).mono ?_; rintro e w3 ⟨rfl, y3⟩; have x3 := yo.trans (y3.mono yo.size); dsimp only)
              | (go_at_call 29; refine (cfrom15 v 0 255 _ _ HR.out).mono ?_; rintro e w4 ⟨rfl, rfl⟩; dsimp only))
            go_ret2
            exact ⟨by rw [HQ.out]; rfl, x3⟩
          · have hv : 0 ≤ v ∧ v ≤ 255 := by simpa using hr
            have ha0 := HA.out.lo
            have ha1 : a ≤ 16777215 := by have := HA.out.hi; omega
            have HQ : Hid (adP ((l.map txB).drop (k + 1)) (a * 256 + v) = q) := Go.Lib.hid (by rw [← HST.out, byteP_num15, HX.out]; dsimp only; rw [HR.out]; rfl)
            have e1 : IntKind.u32.wrap v = v := IntWalk.u32_in _ (by omega)
            have e2 : IntKind.u32.wrap (a * 256) = a * 256 := IntWalk.u32_in _ (by omega)
            have e3 := u32_or8 a v ha0 ha1 hv.1 hv.2
            have HV := Go.Lib.hid hv
            clear hr
            go_wp2_with (first
              | (go_at_call 87; refine (cnum15 s1 HSZ.out _ HT3.out _ HX.out).mono ?_; rintro e w3 ⟨rfl, y3⟩; have x3 := yo.trans (y3.mono yo.size); dsimp only)
              | (go_at_call 29; refine (cfrom15 v 0 255 _ _ HR.out).mono ?_; rintro e w4 ⟨rfl, rfl⟩; dsimp only))
            go_round
            case rel => exact ⟨k + 1, a * 256 + v, by go_num, by go_num, by omega, Go.Lib.hid ⟨HQ.out, by have := HV.out; omega, by have := HV.out; have := HA.out.hi; omega⟩, Go.Lib.hid (yo2.out.trans (y3.mono yo2.out.size)), x3⟩
            case measure => simp [intOf]; omega
      · have t1 : ¬ (k : Int) < (n : Int) := by omega
        have HQ : Hid (q = some a) := Go.Lib.hid (by
          have := HA.out.is
          rw [List.drop_eq_nil_of_le (by rw [List.length_map]; have := HN.out; omega)] at this
          exact this.symm)
        go_wp2_with fail
        go_ret2
        exact ⟨by rw [HQ.out]; rfl, yo⟩
  · have t4 : ((n : Int) != 4) = true := by simp; omega
    have HQ3 : Hid (none = q) := Go.Lib.hid (by rw [← HQ2.out, if_neg h4])
    clear hl hn
    go_wp2_with fail
    go_ret2
    exact ⟨by rw [← HQ3.out]; rfl, y2⟩
end Go.Proofs.YtoghcefamoefpaaGreatDoor

/- The landed conf: the words of a line that weren't read yet. -/
namespace Go.Proofs.YtoghcefamoefpaaGreatDoor
open Go.ChangeShapes Go.WideShapes Go.ChangeAt Go.RowKit
set_option linter.unusedVariables false
set_option linter.unusedSimpArgs false
variable {B : Nat}

theorem tab_at : Tryz.prog.globalNamed "internal/strconv.uint64pow10" = some 0 := by kernel_rfl
theorem Tb.gro {w w' : World} {g : Nat} (h : Tb w) (hg : Gro g w w') (h7 : 7 < g) : Tb w' := by
  have hc : ∀ (k : Nat) v, k < g → w.cell? ⟨k, 0, none⟩ = some v → w'.cell? ⟨k, 0, none⟩ = some v := fun k v hk ha => by
    have hlt := World.block_lt_of_cell? w _ ha
    rw [World.cell?_of_block (hg.block k hlt (by omega))]
    exact ha
  obtain ⟨m, hm⟩ := h.mx
  obtain ⟨t1, p1, h1⟩ := h.es
  obtain ⟨t2, p2, h2⟩ := h.er
  refine ⟨⟨m, hc _ _ (by omega) hm⟩, ⟨t1, p1, hc _ _ (by omega) h1⟩, ⟨t2, p2, hc _ _ h7 h2⟩, ?_⟩
  have e := h.tab
  unfold Lib.TabIs World.var? at e ⊢
  rw [tab_at] at e ⊢
  have hlt := World.block_lt_of_cell? w _ h2
  have hh : w'.heap[0]? = w.heap[0]? := hg.block _ (Nat.lt_of_le_of_lt (by decide) hlt) (by omega)
  revert e
  show (match w.heap[0]? with | some (.cells cs _ _) => some cs | _ => none) = _ → (match w'.heap[0]? with | some (.cells cs _ _) => some cs | _ => none) = _
  rw [hh]
  exact fun e => e
theorem Tb.lt {w : World} (h : Tb w) : 7 < w.heap.size := by
  obtain ⟨t2, p2, h2⟩ := h.er
  exact World.block_lt_of_cell? w _ h2
abbrev wsL (A : Option Addr) (n c : Nat) (bad : Bool) : List Value := [.slice A n c, .bool bad]
theorem info_ws : (Tryz.prog.info? 85).map (·.size) = some 2 := by kernel_rfl
theorem info_ss : (Tryz.prog.info? 73).map (·.size) = some 1 := by kernel_rfl
theorem info_bo : (Tryz.prog.info? 4).map (·.size) = some 1 := by kernel_rfl
/-- the words in their box. -/
structure WsAt (B : Nat) (w : World) (g : Nat) (l : List ByteArray) (bad : Bool) : Prop where
  is : ∃ A c, Bxo w g 85 (wsL A l.length c bad) ∧ StsAt w l A c ∧ (∀ ad, A = some ad → ad.block < g ∧ B ≤ ad.block)
  sz : ∀ x ∈ l, x.size ≤ 1000000
  tb : Tb w
  out : 7 < g
theorem RdC.gro {w w' : World} {g : Nat} {A : Option Addr} {cs : List Value} (h : RdC w A cs) (hg : Gro g w w') (hne : ∀ ad, A = some ad → ad.block ≠ g) : RdC w' A cs := by
  rcases h with h | ⟨ad, e, hc⟩
  · exact .inl h
  · refine .inr ⟨ad, e, fun j u hj => ?_⟩
    have hb : (ad.add j).block = ad.block := by cases j <;> rfl
    have h2 := hc j u hj
    have hlt := World.block_lt_of_cell? w _ h2
    rw [World.cell?_of_block (hg.block _ hlt (by rw [hb]; exact hne ad e))]
    exact h2
theorem WsAt.at {w w' : World} {g : Nat} {l : List ByteArray} {bad : Bool} (h : WsAt B w g l bad) (y : Below w.heap.size w w') : WsAt B w' g l bad := by
  obtain ⟨A, c, h1, h2, h3⟩ := h.is
  exact ⟨⟨A, c, h1.keep y h1.lt, h2.at y, h3⟩, h.sz, h.tb.at y, h.out⟩
/-- another box turns. -/
theorem WsAt.gro {w w' : World} {g g' : Nat} {l : List ByteArray} {bad : Bool} (h : WsAt B w g l bad) (y : Gro g' w w') (hne : g' ≠ g) (hrow : ∀ A c, Bxo w g 85 (wsL A l.length c bad) → ∀ ad, A = some ad → ad.block ≠ g') (ht : Tb w') : WsAt B w' g l bad := by
  obtain ⟨A, c, h1, h2, h3⟩ := h.is
  exact ⟨⟨A, c, h1.gro y (Ne.symm hne), ⟨h2.len, h2.cap, h2.nil, h2.rd.gro y (hrow A c h1)⟩, h3⟩, h.sz, ht, h.out⟩
theorem ws_tail {w w7 : World} {g : Nat} {x : ByteArray} {r : List ByteArray} {bad : Bool} {ad : Addr} {c n : Nat} {A1 : Option Addr} (H : WsAt B w g (x :: r) bad) (hs : StsAt w (x :: r) (some ad) c) (hne : ∀ a, some ad = some a → a.block < g ∧ B ≤ a.block) (hn : (x :: r).length = n) (ho7 : Only g w w7)
    (hA1 : (if c = 1 then some ad else some { block := ad.block, off := ad.off + 1 }) = A1) (hb7 : Bxo w7 g 85 (wsL A1 (n - 1) (c - 1) bad)) : WsAt B w7 g r bad := by
  have hl : (x :: r).length = r.length + 1 := rfl
  have hlc := hs.len
  have hcc := hs.cap
  refine ⟨⟨A1, c - 1, ?_, ⟨?_, by omega, fun e => ?_, ?_⟩, ?_⟩, fun y hy => H.sz y (by simp [hy]), H.tb.gro ho7.gro H.out, H.out⟩
  · rw [show n - 1 = r.length by omega] at hb7
    exact hb7
  · omega
  · rw [← hA1] at e; split at e <;> cases e
  · by_cases hc1 : c = 1
    · left
      show List.map Value.string r = []
      rw [List.map_eq_nil_iff]
      exact List.eq_nil_of_length_eq_zero (by omega)
    · right
      rw [if_neg hc1] at hA1
      refine ⟨_, hA1.symm, fun j u hj => ?_⟩
      rcases hs.rd with h0 | ⟨ad2, e2, hc2⟩
      · simp at h0
      · injection e2 with e2
        subst e2
        have h3 := hc2 (j + 1) u hj
        have e4 : (({ block := ad.block, off := ad.off + 1 } : Addr).add j) = ad.add (j + 1) := by
          have := add_add ad 1 j
          rw [Nat.add_comm 1 j] at this
          exact this
        rw [e4]
        have hb : (ad.add (j + 1)).block = ad.block := rfl
        rw [World.cell?_of_block (ho7.block _ (by rw [hb]; exact Nat.ne_of_lt (hne ad rfl).1))]
        exact h3
  · intro ad' e
    rw [← hA1] at e
    have := hne ad rfl
    split at e <;> (injection e with e; rw [← e]; exact this)
abbrev emB : ByteArray := { data := #[] }
set_option maxRecDepth 100000 in
set_option maxHeartbeats 4000000 in
theorem cnext15 (g : Nat) (l : List ByteArray) (bad : Bool) (w : World) (h : WsAt B w g l bad) :
    Calls Tryz.prog 84 #[.pointer (some ⟨g, 0, none⟩)] w fun e w' => e = .returned (.string (l.headD emB)) ∧ WsAt B w' g l.tail bad ∧ Gro g w w' := by
  have H := Go.Lib.hid h
  obtain ⟨A, c, hb, hs, hne⟩ := h.is
  have c0 := hb.cell 0 rfl
  have HB := Go.Lib.hid hb
  have HS := Go.Lib.hid hs
  have HN := Go.Lib.hid hne
  clear hne hs hb h
  cases l with
  | nil =>
    go_enter Tryz.func84, Tryz.ntmps84
    go_wp2_with fail
    go_ret
    exact ⟨rfl, H.out, Gro.refl⟩
  | cons x r =>
    have t1 : ¬ (((x :: r).length : Int) = 0) := by simp; omega
    have t5 : (0 : Int) ≤ ((x :: r).length : Int) := by omega
    have t2 : (((x :: r).length : Int) == 0) = false := by simp; omega
    have t3 : (0 : Int) < ((x :: r).length : Int) := by simp
    have t4 : (1 : Int) ≤ ((x :: r).length : Int) := by simp; omega
    obtain ⟨ad, rfl, hcell⟩ := HS.out.cell (i := 0) (show 0 < (x :: r).length by simp)
    have hx := hcell w (Below.refl _ _)
    rw [List.getElem_cons_zero, show ad.add 0 = ad from rfl] at hx
    obtain ⟨n, hn⟩ : ∃ n, (x :: r).length = n := ⟨_, rfl⟩
    have hlc := HS.out.len
    have hcc := HS.out.cap
    rw [hn] at c0 t1 t2 t3 t4 t5 hlc
    clear hcell
    have HNN := Go.Lib.hid hn
    clear hn
    by_cases hc1 : c = 1
    · subst hc1
      obtain rfl : n = 1 := by omega
      go_enter Tryz.func84, Tryz.ntmps84
      go_wp2_with (refine wpList_store_any rfl 73 _ _ rfl g 0 85 _ [.slice (some ad) 0 0] _ rfl rfl rfl HB.out info_ss (by show 0 + 1 ≤ 2; omega) (by intro u hu; rw [List.mem_singleton.1 hu]; rfl) ?_; intro w7 hb7 ho7)
      go_ret
      exact ⟨rfl, ws_tail H.out HS.out HN.out HNN.out ho7 (if_pos rfl) hb7, ho7.gro⟩
    · go_enter Tryz.func84, Tryz.ntmps84
      go_wp2_with (refine wpList_store_any rfl 73 _ _ rfl g 0 85 _ [.slice (some { block := ad.block, off := ad.off + 1 }) (n - 1) (c - 1)] _ rfl rfl rfl HB.out info_ss (by show 0 + 1 ≤ 2; omega) (by intro u hu; rw [List.mem_singleton.1 hu]; rfl) ?_; intro w7 hb7 ho7)
      go_ret
      exact ⟨rfl, ws_tail H.out HS.out HN.out HNN.out ho7 (if_neg hc1) hb7, ho7.gro⟩
end Go.Proofs.YtoghcefamoefpaaGreatDoor

/- The landed conf: check. -/
namespace Go.Proofs.YtoghcefamoefpaaGreatDoor
open Go.ChangeShapes Go.WideShapes Go.ChangeAt Go.RowKit
set_option linter.unusedVariables false
set_option linter.unusedSimpArgs false
variable {B : Nat}

set_option maxRecDepth 100000 in
set_option maxHeartbeats 4000000 in
theorem ccheck15 (g : Nat) (l : List ByteArray) (bad b : Bool) (w : World) (h : WsAt B w g l bad) :
    Calls Tryz.prog 86 #[.pointer (some ⟨g, 0, none⟩), .bool b] w fun e w' => e = .returned (.tuple #[]) ∧ WsAt B w' g l (bad || !b) ∧ Gro g w w' := by
  have H := Go.Lib.hid h
  obtain ⟨A, c, hb, hs, hne⟩ := h.is
  have c0 := hb.cell 1 rfl
  have HB := Go.Lib.hid hb
  have HS := Go.Lib.hid hs
  have HN := Go.Lib.hid hne
  have fin : ∀ w7 u, Bxo w7 g 85 (wsL A l.length c u) → Only g w w7 → WsAt B w7 g l u := fun w7 u hb7 ho7 =>
    ⟨⟨A, c, hb7, ⟨hs.len, hs.cap, hs.nil, hs.rd.gro ho7.gro (fun ad e => Nat.ne_of_lt (hne ad e).1)⟩, hne⟩, h.sz, h.tb.gro ho7.gro h.out, h.out⟩
  have HF := Go.Lib.hid fin
  clear hne hs hb h fin
  cases bad
  · go_enter Tryz.func86, Tryz.ntmps86
    go_wp2_with (refine wpList_store_any rfl 4 _ _ rfl g 1 85 _ [.bool (!b)] _ rfl rfl rfl HB.out info_bo (by show 1 + 1 ≤ 2; omega) (by intro u hu; rw [List.mem_singleton.1 hu]; rfl) ?_; intro w7 hb7 ho7)
    go_end0
    exact ⟨rfl, HF.out _ _ hb7 ho7, ho7.gro⟩
  · go_enter Tryz.func86, Tryz.ntmps86
    go_wp2_with (refine wpList_store_any rfl 4 _ _ rfl g 1 85 _ [.bool true] _ rfl rfl rfl HB.out info_bo (by show 1 + 1 ≤ 2; omega) (by intro u hu; rw [List.mem_singleton.1 hu]; rfl) ?_; intro w7 hb7 ho7)
    go_end0
    exact ⟨rfl, HF.out _ _ hb7 ho7, ho7.gro⟩
end Go.Proofs.YtoghcefamoefpaaGreatDoor

/- The landed conf: numbers and addresses among the words. -/
namespace Go.Proofs.YtoghcefamoefpaaGreatDoor
open Go.ChangeShapes Go.WideShapes Go.ChangeAt Go.RowKit
set_option linter.unusedVariables false
set_option linter.unusedSimpArgs false
variable {B : Nat}

theorem head_sz {l : List ByteArray} (h : ∀ x ∈ l, x.size ≤ 1000000) : (l.headD emB).size ≤ 1000000 := by
  cases l with
  | nil => decide
  | cons x r => exact h x (by simp)
abbrev hdT (l : List ByteArray) : Tx := txB (l.headD emB)
set_option maxRecDepth 100000 in
set_option maxHeartbeats 1000000 in
theorem cnumber15 (g : Nat) (l : List ByteArray) (bad : Bool) (w : World) (h : WsAt B w g l bad) (q : Option Int) (hq : numP (hdT l) = q) :
    Calls Tryz.prog 69 #[.pointer (some ⟨g, 0, none⟩)] w fun e w' => e = .returned (.int .i64 (q.getD 0)) ∧ WsAt B w' g l.tail (bad || !q.isSome) ∧ Gro g w w' := by
  have kN := cnext15 g l bad w h
  have hz := head_sz h.sz
  unfold hdT at hq
  generalize l.headD emB = x at kN hz hq
  generalize l.tail = r at kN ⊢
  have kO := fun w' ht => cnum15 x hz w' ht q hq
  generalize q.getD 0 = n at kO ⊢
  generalize q.isSome = b at kO ⊢
  have KN := Go.Lib.hid kN
  have KO := Go.Lib.hid kO
  clear kN kO hq hz h
  go_enter Tryz.func69, Tryz.ntmps69
  go_wp2_with (first
    | (go_at_call 84; refine KN.out.mono ?_; rintro e w2 ⟨rfl, h2, g2⟩; have H2 := Go.Lib.hid h2; clear h2; dsimp only)
    | (go_at_call 87; refine (KO.out w2 H2.out.tb).mono ?_; rintro e w3 ⟨rfl, y3⟩; have H3 := Go.Lib.hid (H2.out.at y3); have g3 := g2.trans (gro_below y3); dsimp only)
    | (go_at_call 86; refine (ccheck15 g r bad b w3 H3.out).mono ?_; rintro e w4 ⟨rfl, h4, g4⟩; have g5 := g3.trans g4; dsimp only))
  go_ret
  exact ⟨rfl, h4, g5⟩
set_option maxRecDepth 100000 in
set_option maxHeartbeats 1000000 in
theorem caddress15 (g : Nat) (l : List ByteArray) (bad : Bool) (w : World) (h : WsAt B w g l bad) (q : Option Int) (hq : addrP (hdT l) = q) :
    Calls Tryz.prog 71 #[.pointer (some ⟨g, 0, none⟩)] w fun e w' => e = .returned (.int .u32 (q.getD 0)) ∧ WsAt B w' g l.tail (bad || !q.isSome) ∧ Gro g w w' := by
  have kN := cnext15 g l bad w h
  have hz := head_sz h.sz
  unfold hdT at hq
  generalize l.headD emB = x at kN hz hq
  generalize l.tail = r at kN ⊢
  have kO := fun w' ht => caddr15 x hz w' ht q hq
  generalize q.getD 0 = n at kO ⊢
  generalize q.isSome = b at kO ⊢
  have KN := Go.Lib.hid kN
  have KO := Go.Lib.hid kO
  clear kN kO hq hz h
  go_enter Tryz.func71, Tryz.ntmps71
  go_wp2_with (first
    | (go_at_call 84; refine KN.out.mono ?_; rintro e w2 ⟨rfl, h2, g2⟩; have H2 := Go.Lib.hid h2; clear h2; dsimp only)
    | (go_at_call 85; refine (KO.out w2 H2.out.tb).mono ?_; rintro e w3 ⟨rfl, y3⟩; have H3 := Go.Lib.hid (H2.out.at y3); have g3 := g2.trans (gro_below y3); dsimp only)
    | (go_at_call 86; refine (ccheck15 g r bad b w3 H3.out).mono ?_; rintro e w4 ⟨rfl, h4, g4⟩; have g5 := g3.trans g4; dsimp only))
  go_ret
  exact ⟨rfl, h4, g5⟩
end Go.Proofs.YtoghcefamoefpaaGreatDoor

/- The landed conf: nets, actions, the word that may stand last. -/
namespace Go.Proofs.YtoghcefamoefpaaGreatDoor
open Go.ChangeShapes Go.WideShapes Go.ChangeAt Go.RowKit
set_option linter.unusedVariables false
set_option linter.unusedSimpArgs false
variable {B : Nat}

abbrev ctA (l : List ByteArray) : Option Int := addrP (Lib.cut (hdT l) [47]).1
abbrev ctB (l : List ByteArray) : Option Int := numP (Lib.cut (hdT l) [47]).2.1
theorem cut_sz (s : Tx) : (Lib.cut s [47]).1.length ≤ s.length ∧ (Lib.cut s [47]).2.1.length ≤ s.length := by
  rcases cut_lib 47 s with ⟨_, h⟩ | ⟨a, b, rfl, _, h⟩
  · rw [h]; simp
  · rw [h, List.length_append]; simp; omega
set_option maxRecDepth 100000 in
set_option maxHeartbeats 1000000 in
theorem cnet15 (g : Nat) (l : List ByteArray) (bad : Bool) (w : World) (h : WsAt B w g l bad) (qa qb : Option Int) (hqa : ctA l = qa) (hqb : ctB l = qb) :
    Calls Tryz.prog 68 #[.pointer (some ⟨g, 0, none⟩)] w fun e w' => e = .returned (.tuple #[.int .u32 (qa.getD 0), .int .i64 (qb.getD 0)]) ∧ WsAt B w' g l.tail ((bad || !qa.isSome) || !qb.isSome) ∧ Gro g w w' := by
  have kN := cnext15 g l bad w h
  have hz := head_sz h.sz
  unfold ctA hdT at hqa
  unfold ctB hdT at hqb
  generalize l.headD emB = x at kN hz hqa hqb
  generalize l.tail = r at kN ⊢
  have kC := fun w' ht => ccut15 x hz w' ht
  have kA : ∀ A : ByteArray, txB A = (Lib.cut (txB x) [47]).1 → ∀ w', Tb w' → _ := fun A hA w' ht => caddr15 A (by rw [← txB_len, hA]; have := (cut_sz (txB x)).1; rw [txB_len] at this; omega) w' ht qa (by rw [hA]; exact hqa)
  have kB : ∀ A : ByteArray, txB A = (Lib.cut (txB x) [47]).2.1 → ∀ w', Tb w' → _ := fun A hA w' ht => cnum15 A (by rw [← txB_len, hA]; have := (cut_sz (txB x)).2; rw [txB_len] at this; omega) w' ht qb (by rw [hA]; exact hqb)
  generalize qa.getD 0 = na at kA ⊢
  generalize qa.isSome = ba at kA ⊢
  generalize qb.getD 0 = nb at kB ⊢
  generalize qb.isSome = bb at kB ⊢
  have KN := Go.Lib.hid kN
  have KC := Go.Lib.hid kC
  have KA := Go.Lib.hid kA
  have KB := Go.Lib.hid kB
  have tok1 : True := trivial
  have tok2 : True := trivial
  clear kN kC kA kB hqa hqb hz h
  go_enter Tryz.func68, Tryz.ntmps68
  go_upto_region 4 with (first
    | (go_at_call 84; refine KN.out.mono ?_; rintro e w2 ⟨rfl, h2, g2⟩; have H2 := Go.Lib.hid h2; clear h2; dsimp only)
    | (go_at_call 83; refine (KC.out w2 H2.out.tb).mono ?_; rintro e w3 ⟨⟨A, B, kk, rfl, hA, hB⟩, n3, y3⟩; have y4 : Below w2.heap.size w2 w3 := (by rw [y3]; exact below_dn (Below.refl _ _) _); have H3 := Go.Lib.hid (H2.out.at y4); have g3 := g2.trans (gro_below y4); have HA := Go.Lib.hid hA; have HB := Go.Lib.hid hB; clear hA hB y3 y4; dsimp only)
    | (go_at_call 85; refine (KA.out A HA.out w3 H3.out.tb).mono ?_; rintro e w4 ⟨rfl, y4⟩; have H4 := Go.Lib.hid (H3.out.at y4); have g4 := g3.trans (gro_below y4); dsimp only)
    | (go_at_call 86; refine (ccheck15 g r bad ba w4 H4.out).mono ?_; rintro e w5 ⟨rfl, h5, g5⟩; have H5 := Go.Lib.hid h5; have g6 := g4.trans g5; clear h5; dsimp only))
  go_wp2_with (first
    | (go_at_call 87; refine (KB.out B HB.out w5 H5.out.tb).mono ?_; rintro e w7 ⟨rfl, y7⟩; have H7 := Go.Lib.hid (H5.out.at y7); have g7 := g6.trans (gro_below y7); dsimp only)
    | (go_at_call 86; refine (ccheck15 g r (bad || !ba) bb w7 H7.out).mono ?_; rintro e w8 ⟨rfl, h8, g8⟩; have g9 := g7.trans g8; dsimp only))
  go_ret2
  exact ⟨rfl, h8, g9⟩
end Go.Proofs.YtoghcefamoefpaaGreatDoor

/- The landed conf: actions, the word that may stand last. -/
namespace Go.Proofs.YtoghcefamoefpaaGreatDoor
open Go.ChangeShapes Go.WideShapes Go.ChangeAt Go.RowKit
set_option linter.unusedVariables false
set_option linter.unusedSimpArgs false
variable {B : Nat}

theorem txB_inj {a b : ByteArray} (h : txB a = txB b) : a = b := by
  obtain ⟨⟨x⟩⟩ := a
  obtain ⟨⟨y⟩⟩ := b
  have : x = y := h
  rw [this]
theorem bt_toList (x : ByteArray) : x.toList = txB x := by
  have := Lib.extract_toList x 0 x.size
  rw [List.drop_zero, Nat.sub_zero] at this
  have h2 : x.extract 0 x.size = x := ByteArray.extract_zero_size
  rw [h2] at this
  rw [this]
  exact List.take_of_length_le (Nat.le_of_eq (Lib.size_eq x).symm)
theorem ne_lit {x y : ByteArray} {l : Tx} (h : ¬ x = y) (e : txB y = l) : (x.toList == l) = false := by
  rw [beq_eq_false_iff_ne, bt_toList, ← e]
  exact fun q => h (txB_inj q)
abbrev alB : ByteArray := { data := #[97, 108, 108, 111, 119] }
abbrev deB : ByteArray := { data := #[100, 101, 110, 121] }
set_option maxRecDepth 100000 in
set_option maxHeartbeats 1000000 in
theorem caction15 (g : Nat) (l : List ByteArray) (bad : Bool) (w : World) (h : WsAt B w g l bad) (q : Option Int) (hq : actP (hdT l) = q) :
    Calls Tryz.prog 70 #[.pointer (some ⟨g, 0, none⟩)] w fun e w' => e = .returned (.int .i64 (q.getD 0)) ∧ WsAt B w' g l.tail (bad || !q.isSome) ∧ Gro g w w' := by
  have kN := cnext15 g l bad w h
  unfold hdT at hq
  generalize l.headD emB = x at kN hq
  generalize l.tail = r at kN ⊢
  have KN := Go.Lib.hid kN
  clear kN h
  by_cases h1 : x = alB
  · subst h1
    have HQ : Hid (q = some 2) := Go.Lib.hid (by rw [← hq]; rfl)
    clear hq
    go_enter Tryz.func70, Tryz.ntmps70
    go_wp2_with (go_at_call 84; refine KN.out.mono ?_; rintro e w2 ⟨rfl, h2, g2⟩; dsimp only)
    go_ret
    exact ⟨by rw [HQ.out]; rfl, by rw [HQ.out]; simpa using h2, g2⟩
  · by_cases h2 : x = deB
    · subst h2
      have HQ : Hid (q = some 1) := Go.Lib.hid (by rw [← hq]; rfl)
      clear hq h1
      go_enter Tryz.func70, Tryz.ntmps70
      go_wp2_with (go_at_call 84; refine KN.out.mono ?_; rintro e w2 ⟨rfl, h2, g2⟩; dsimp only)
      go_ret
      exact ⟨by rw [HQ.out]; rfl, by rw [HQ.out]; simpa using h2, g2⟩
    · have HQ : Hid (q = none) := Go.Lib.hid (by
        rw [← hq]
        unfold actP
        rw [if_neg (show ¬ (txB x == kAllow) = true from fun e => h1 (txB_inj (eq_of_beq e))), if_neg (show ¬ (txB x == kDeny) = true from fun e => h2 (txB_inj (eq_of_beq e)))])
      have t1 : (x.toList == [97, 108, 108, 111, 119]) = false := ne_lit h1 rfl
      have t2 : (x.toList == [100, 101, 110, 121]) = false := ne_lit h2 rfl
      clear hq
      go_enter Tryz.func70, Tryz.ntmps70
      go_wp2_with (first
        | (go_at_call 84; refine KN.out.mono ?_; rintro e w2 ⟨rfl, h3, g3⟩; dsimp only)
        | (go_at_call 86; refine (ccheck15 g r bad false w2 h3).mono ?_; rintro e w8 ⟨rfl, h8, g8⟩; have g9 := g3.trans g8; dsimp only))
      go_ret
      exact ⟨by rw [HQ.out]; rfl, by rw [HQ.out]; exact h8, g9⟩
abbrev prB : ByteArray := { data := #[112, 114, 111, 120, 121] }
abbrev perhQ (l : List ByteArray) : Bool := (hdT l == txB prB)
theorem ne_beq {x y : ByteArray} (h : ¬ x = y) : (txB x == txB y) = false := by
  rw [beq_eq_false_iff_ne]
  exact fun e => h (txB_inj e)
set_option maxRecDepth 100000 in
set_option maxHeartbeats 1000000 in
theorem cperhaps15 (g : Nat) (l : List ByteArray) (bad : Bool) (w : World) (h : WsAt B w g l bad) :
    Calls Tryz.prog 72 #[.pointer (some ⟨g, 0, none⟩), .string prB] w fun e w' => e = .returned (.bool (!l.isEmpty)) ∧ WsAt B w' g l.tail (bad || (!l.isEmpty && !(perhQ l))) ∧ Gro g w w' := by
  have kN := cnext15 g l bad w h
  obtain ⟨A, c, hb, _, _⟩ := h.is
  have c0 := hb.cell 0 rfl
  have H := Go.Lib.hid h
  clear hb h
  cases l with
  | nil =>
    clear kN
    go_enter Tryz.func72, Tryz.ntmps72
    go_wp2_with fail
    go_ret
    exact ⟨rfl, by simpa using H.out, Gro.refl⟩
  | cons x r =>
    have hl : (x :: r).length = r.length + 1 := rfl
    obtain ⟨n, hn⟩ : ∃ n, (x :: r).length = n := ⟨_, rfl⟩
    rw [hn] at c0
    have t1 : ¬ ((n : Int) = 0) := by omega
    have t2 : ((n : Int) == 0) = false := by simp; omega
    have kN' : Calls Tryz.prog 84 #[.pointer (some ⟨g, 0, none⟩)] w fun e w' => e = .returned (.string x) ∧ WsAt B w' g r bad ∧ Gro g w w' := kN
    have KN := Go.Lib.hid kN'
    have fin : Hid (∀ (w8 : World) (b : Bool), (txB x == txB prB) = b → WsAt B w8 g r (bad || !b) → WsAt B w8 g (x :: r).tail (bad || (!(x :: r).isEmpty && !(perhQ (x :: r))))) := Go.Lib.hid (fun w8 b hb h8 => by
      have e : perhQ (x :: r) = b := hb
      rw [e]
      exact h8)
    clear kN kN' hn hl H
    by_cases h1 : x = prB
    · subst h1
      go_enter Tryz.func72, Tryz.ntmps72
      go_wp2_with (first
        | (go_at_call 84; refine KN.out.mono ?_; rintro e w2 ⟨rfl, h3, g3⟩; dsimp only)
        | (go_at_call 86; refine (ccheck15 g r bad true w2 h3).mono ?_; rintro e w8 ⟨rfl, h8, g8⟩; have g9 := g3.trans g8; dsimp only))
      go_ret
      exact ⟨rfl, fin.out w8 true rfl h8, g9⟩
    · have t3 : (x.toList == [112, 114, 111, 120, 121]) = false := ne_lit h1 rfl
      go_enter Tryz.func72, Tryz.ntmps72
      go_wp2_with (first
        | (go_at_call 84; refine KN.out.mono ?_; rintro e w2 ⟨rfl, h3, g3⟩; dsimp only)
        | (go_at_call 86; refine (ccheck15 g r bad false w2 h3).mono ?_; rintro e w8 ⟨rfl, h8, g8⟩; have g9 := g3.trans g8; dsimp only))
      go_ret
      exact ⟨rfl, fin.out w8 false (ne_beq h1) h8, g9⟩
end Go.Proofs.YtoghcefamoefpaaGreatDoor

/- Lines: as words are read one behind the other. -/
namespace Go.Proofs.YtoghcefamoefpaaGreatDoor
set_option linter.unusedVariables false

abbrev hdL (l : List Tx) : Tx := l.headD []
abbrev cA (l : List Tx) : Option Int := addrP (Lib.cut (hdL l) [47]).1
abbrev cB (l : List Tx) : Option Int := numP (Lib.cut (hdL l) [47]).2.1
abbrev nQ (l : List Tx) : Option Int := numP (hdL l)
abbrev aQ (l : List Tx) : Option Int := addrP (hdL l)
abbrev tQ (l : List Tx) : Option Int := actP (hdL l)
def okB {α : Type} (b : Bool) (x : α) : Option α := match b with
  | true => none
  | false => some x
theorem numP_nil : numP [] = none := rfl
theorem addrP_nil : addrP [] = none := rfl
theorem cA_nil : addrP (Lib.cut [] [47]).1 = none := rfl
theorem actP_nil : actP [] = none := rfl
theorem outside_seq (c : Cf) (l : List Tx) : outsideP c l = okB ((false || !(nQ l).isSome) || !l.tail.isEmpty) { c with outside := (nQ l).getD 0 } := by
  match l with
  | [] => rfl
  | [a] =>
    unfold outsideP nQ hdL
    dsimp only [List.headD_cons, List.tail_cons]
    cases numP a <;> rfl
  | a :: b :: t =>
    rw [show (!(a :: b :: t).tail.isEmpty) = true from rfl, Bool.or_true]
    rfl
theorem budget_seq (c : Cf) (l : List Tx) : budgetP c l = okB ((false || !(nQ l).isSome) || !l.tail.isEmpty) { c with budget := (nQ l).getD 0 } := by
  match l with
  | [] => rfl
  | [a] =>
    unfold budgetP nQ hdL
    dsimp only [List.headD_cons, List.tail_cons]
    cases numP a <;> rfl
  | a :: b :: t =>
    rw [show (!(a :: b :: t).tail.isEmpty) = true from rfl, Bool.or_true]
    rfl
theorem life_seq (c : Cf) (l : List Tx) : lifeP c l = okB (((false || !(nQ l).isSome) || !(nQ l.tail).isSome) || !l.tail.tail.isEmpty) { c with tcp := (nQ l).getD 0, other := (nQ l.tail).getD 0 } := by
  match l with
  | [] => rfl
  | [a] =>
    unfold lifeP nQ hdL
    dsimp only [List.headD_cons, List.tail_cons, List.headD_nil]
    rw [numP_nil]
    simp [okB]
  | [a, b] =>
    unfold lifeP nQ hdL
    dsimp only [List.headD_cons, List.tail_cons]
    cases numP a <;> cases numP b <;> rfl
  | a :: b :: d :: t =>
    rw [show (!(a :: b :: d :: t).tail.tail.isEmpty) = true from rfl, Bool.or_true]
    rfl
theorem public_seq (c : Cf) (l : List Tx) : publicP c l = okB ((((false || !(aQ l).isSome) || !(nQ l.tail).isSome) || !(nQ l.tail.tail).isSome) || !l.tail.tail.tail.isEmpty) { c with pub := (aQ l).getD 0, lo := (nQ l.tail).getD 0, hi := (nQ l.tail.tail).getD 0 } := by
  match l with
  | [] => rfl
  | [a] | [a, b] =>
    unfold publicP nQ aQ hdL
    dsimp only [List.headD_cons, List.tail_cons, List.headD_nil, List.tail_nil]
    rw [numP_nil]
    simp [okB]
  | [a, b, d] =>
    unfold publicP nQ aQ hdL
    dsimp only [List.headD_cons, List.tail_cons]
    cases addrP a <;> cases numP b <;> cases numP d <;> rfl
  | a :: b :: d :: e :: t =>
    rw [show (!(a :: b :: d :: e :: t).tail.tail.tail.isEmpty) = true from rfl, Bool.or_true]
    rfl
theorem route_seq (c : Cf) (l : List Tx) : routeP c l = okB (((((false || !(cA l).isSome) || !(cB l).isSome) || !(nQ l.tail).isSome) || !(nQ l.tail.tail).isSome) || !l.tail.tail.tail.isEmpty) { c with routes := c.routes ++ [⟨(cA l).getD 0, (cB l).getD 0, (nQ l.tail).getD 0, (nQ l.tail.tail).getD 0⟩] } := by
  match l with
  | [] => rfl
  | [a] | [a, b] =>
    unfold routeP nQ cA cB hdL
    dsimp only [List.headD_cons, List.tail_cons, List.headD_nil, List.tail_nil]
    rw [numP_nil]
    simp [okB]
  | [a, b, d] =>
    unfold routeP nQ cA cB hdL
    dsimp only [List.headD_cons, List.tail_cons]
    rw [net_cut]
    cases addrP (Lib.cut a [47]).1 <;> cases numP (Lib.cut a [47]).2.1 <;> cases numP b <;> cases numP d <;> rfl
  | a :: b :: d :: e :: t =>
    rw [show (!(a :: b :: d :: e :: t).tail.tail.tail.isEmpty) = true from rfl, Bool.or_true]
    rfl
theorem proxy_seq (l : List Tx) : proxyP l = okB ((!l.isEmpty && !(hdL l == kProxy)) || !l.tail.isEmpty) (!l.isEmpty) := by
  match l with
  | [] => rfl
  | [a] =>
    unfold proxyP hdL
    dsimp only [List.headD_cons, List.tail_cons]
    cases a == kProxy <;> rfl
  | a :: b :: t =>
    rw [show (!(a :: b :: t).tail.isEmpty) = true from rfl, Bool.or_true]
    rfl
theorem forward_seq (c : Cf) (l : List Tx) : forwardP c l = okB ((((((false || !(nQ l).isSome) || !(nQ l.tail).isSome) || !(aQ l.tail.tail).isSome) || !(nQ l.tail.tail.tail).isSome) || (!l.tail.tail.tail.tail.isEmpty && !(hdL l.tail.tail.tail.tail == kProxy))) || !l.tail.tail.tail.tail.tail.isEmpty)
    { c with fwds := c.fwds ++ [⟨(nQ l).getD 0, (nQ l.tail).getD 0, (aQ l.tail.tail).getD 0, (nQ l.tail.tail.tail).getD 0, !l.tail.tail.tail.tail.isEmpty⟩] } := by
  match l with
  | [] => rfl
  | [a] | [a, b] | [a, b, d] =>
    unfold forwardP nQ aQ hdL
    dsimp only [List.headD_cons, List.tail_cons, List.headD_nil, List.tail_nil]
    rw [numP_nil]
    simp [okB]
  | a :: b :: d :: e :: t =>
    unfold forwardP nQ aQ hdL
    dsimp only [List.headD_cons, List.tail_cons]
    rw [proxy_seq t]
    generalize numP a = x1
    generalize numP b = x2
    generalize addrP d = x3
    generalize numP e = x4
    generalize (hdL t == kProxy) = x5
    generalize t.tail.isEmpty = x6
    generalize t.isEmpty = x7
    cases x1 <;> cases x2 <;> cases x3 <;> cases x4 <;> cases x5 <;> cases x6 <;> cases x7 <;> rfl
theorem rule_seq (c : Cf) (l : List Tx) (l1 l2 l3 l4 l5 l6 l7 l8 : List Tx) (h1 : l.tail = l1) (h2 : l1.tail = l2) (h3 : l2.tail = l3) (h4 : l3.tail = l4) (h5 : l4.tail = l5) (h6 : l5.tail = l6) (h7 : l6.tail = l7) (h8 : l7.tail = l8) :
    ruleP c l = okB (((((((((((false || !(nQ l).isSome) || !(nQ l1).isSome) || !(nQ l2).isSome) || !(cA l3).isSome) || !(cB l3).isSome) || !(cA l4).isSome) || !(cB l4).isSome) || !(nQ l5).isSome) || !(nQ l6).isSome) || !(tQ l7).isSome) || !l8.isEmpty)
    { c with rules := c.rules ++ [⟨(nQ l).getD 0, (nQ l1).getD 0, (nQ l2).getD 0, (cA l3).getD 0, (cA l4).getD 0, (cB l3).getD 0, (cB l4).getD 0, (nQ l5).getD 0, (nQ l6).getD 0, (tQ l7).getD 0⟩] } := by
  subst h1 h2 h3 h4 h5 h6 h7 h8
  match l with
  | [] => rfl
  | [a1] | [a1, a2] | [a1, a2, a3] | [a1, a2, a3, a4] | [a1, a2, a3, a4, a5] | [a1, a2, a3, a4, a5, a6] | [a1, a2, a3, a4, a5, a6, a7] =>
    unfold ruleP nQ cA cB tQ hdL
    dsimp only [List.headD_cons, List.tail_cons, List.headD_nil, List.tail_nil]
    rw [actP_nil]
    simp [okB]
  | [a1, a2, a3, a4, a5, a6, a7, a8] =>
    unfold ruleP nQ cA cB tQ hdL
    dsimp only [List.headD_cons, List.tail_cons]
    rw [net_cut, net_cut]
    generalize numP a1 = x1
    generalize numP a2 = x2
    generalize numP a3 = x3
    generalize addrP (Lib.cut a4 [47]).1 = x4
    generalize numP (Lib.cut a4 [47]).2.1 = x5
    generalize addrP (Lib.cut a5 [47]).1 = x6
    generalize numP (Lib.cut a5 [47]).2.1 = x7
    generalize numP a6 = x8
    generalize numP a7 = x9
    generalize actP a8 = x10
    cases x1 with
    | none => simp [okB]
    | some y1 =>
    cases x2 with
    | none => simp [okB]
    | some y2 =>
    cases x3 with
    | none => simp [okB]
    | some y3 =>
    cases x4 with
    | none => simp [okB]
    | some y4 =>
    cases x5 with
    | none => simp [okB]
    | some y5 =>
    cases x6 with
    | none => simp [okB]
    | some y6 =>
    cases x7 with
    | none => simp [okB]
    | some y7 =>
    cases x8 with
    | none => simp [okB]
    | some y8 =>
    cases x9 with
    | none => simp [okB]
    | some y9 =>
    cases x10 with
    | none => simp [okB]
    | some y10 => simp [okB]
  | a1 :: a2 :: a3 :: a4 :: a5 :: a6 :: a7 :: a8 :: a9 :: t =>
    rw [show (!(a1 :: a2 :: a3 :: a4 :: a5 :: a6 :: a7 :: a8 :: a9 :: t).tail.tail.tail.tail.tail.tail.tail.tail.isEmpty) = true from rfl, Bool.or_true]
    rfl
end Go.Proofs.YtoghcefamoefpaaGreatDoor

/- The landed conf: a draft in memory. -/
namespace Go.Proofs.YtoghcefamoefpaaGreatDoor
open Go.ChangeShapes Go.WideShapes Go.ChangeAt Go.RowKit
set_option linter.unusedVariables false
set_option linter.unusedSimpArgs false

/-- a block of cells. -/
def IsC (w : World) (g : Nat) : Prop := ∃ ty cs, Bxo w g ty cs
theorem IsC.not {w : World} {g : Nat} {o : Obj} (h : IsC w g) (ho : w.heap[g]? = some o) (hc : o.isCells = false) : False := by
  obtain ⟨ty, cs, hb⟩ := h
  have hb' : w.heap[g]? = some (.cells cs.toArray ty (0, 0)) := hb
  rw [ho] at hb'
  injection hb' with q
  rw [q] at hc
  cases hc
/-- below B all is as it was but for one block, and whatever is no cells. -/
structure Dg (B g : Nat) (w w' : World) : Prop where
  os : w'.os = w.os
  tape : w'.tape = w.tape
  output : w'.output = w.output
  size : w.heap.size ≤ w'.heap.size
  block : ∀ k, k < B → k ≠ g → w'.heap[k]? = w.heap[k]?
  nc : ∀ (k : Nat) (o : Obj), w.heap[k]? = some o → o.isCells = false → w'.heap[k]? = some o
section
variable {B g g' : Nat} {w w' w'' : World} {ty : TypeId} {cs : List Value}
theorem Dg.refl : Dg B g w w := ⟨rfl, rfl, rfl, Nat.le_refl _, fun _ _ _ => rfl, fun _ _ h _ => h⟩
theorem Dg.trans (h : Dg B g w w') (k : Dg B g w' w'') : Dg B g w w'' := ⟨k.os.trans h.os, k.tape.trans h.tape, k.output.trans h.output, Nat.le_trans h.size k.size, fun i hi hg => (k.block i hi hg).trans (h.block i hi hg), fun i o hi ho => k.nc i o (h.nc i o hi ho) ho⟩
theorem at_lt {w : World} {k : Nat} {o : Obj} (h : w.heap[k]? = some o) : k < w.heap.size := (Array.getElem?_eq_some_iff.1 h).1
theorem Dg.ofBelow (h : Below w.heap.size w w') (hB : B ≤ w.heap.size) : Dg B g w w' := ⟨h.os, h.tape, h.output, h.size, fun k hk _ => h.block k (by omega), fun k o hk _ => (h.block k (at_lt hk)).trans hk⟩
theorem Dg.ofGro (h : Gro g' w w') (hg : B ≤ g') (hB : B ≤ w.heap.size) (hc : IsC w g') : Dg B g w w' := ⟨h.os, h.tape, h.output, h.size, fun k hk _ => h.block k (by omega) (by omega), fun k o hk ho => (h.block k (at_lt hk) (fun e => hc.not (by rw [← e]; exact hk) ho)).trans hk⟩
theorem Dg.ofOnly (h : Only g w w') (hc : IsC w g) : Dg B g w w' := ⟨h.os, h.tape, h.output, Nat.le_of_eq h.size.symm, fun k _ hk => h.block k hk, fun k o hk ho => (h.block k (fun e => hc.not (by rw [← e]; exact hk) ho)).trans hk⟩
theorem Dg.below (h : Dg B g w w') {b : Nat} (h1 : b ≤ B) (h2 : b ≤ g) : Below b w w' := ⟨h.os, h.tape, h.output, h.size, fun k hk => h.block k (by omega) (by omega)⟩
theorem Bxo.dg (h : Bxo w g' ty cs) (hd : Dg B g w w') (h1 : g' < B) (h2 : g' ≠ g) : Bxo w' g' ty cs := (hd.block g' h1 h2).trans h
end
abbrev OwX (B : Nat) (e : TypeId) (k : Nat) (A : Option Addr) (n c : Nat) (xs : List Value) (w : World) : Prop := w.ownsRow B e k (.slice A n c) n xs
/-- a draft and its rows. -/
structure DrAt (w : World) (B gd : Nat) (c : Cf) (p : Cfm) : Prop where
  box : Bxo w gd 66 (cfL c p)
  lt : gd < B
  hs : B ≤ w.heap.size
  out : 7 < gd
  r1 : OwX B 46 4 p.A1 c.routes.length p.c1 (c.routes.flatMap Rt.L) w
  r2 : OwX B 54 10 p.A2 c.rules.length p.c2 (c.rules.flatMap Ru.L) w
  r3 : OwX B 40 5 p.A3 c.fwds.length p.c3 (c.fwds.flatMap Fw.L) w
  n12 : ∀ k, blk p.A1 = some k → blk p.A2 ≠ some k
  n13 : ∀ k, blk p.A1 = some k → blk p.A3 ≠ some k
  n23 : ∀ k, blk p.A2 = some k → blk p.A3 ≠ some k
  rng : RngC c
/-- no row of it lies there. -/
structure NoRow (p : Cfm) (g : Nat) : Prop where
  a1 : blk p.A1 ≠ some g
  a2 : blk p.A2 ≠ some g
  a3 : blk p.A3 ≠ some g
section
variable {w w' : World} {B gd g : Nat} {c c' : Cf} {p : Cfm}
theorem own_lo {w : World} {B : Nat} {e : TypeId} {k : Nat} {A : Option Addr} {n c : Nat} {xs : List Value} (h : OwX B e k A n c xs w) {b : Nat} (hb : blk A = some b) : B ≤ b ∧ b < w.heap.size := by
  rcases own_addr h with ⟨rfl, _, _⟩ | ⟨g, rfl, h1, h2⟩
  · cases hb
  · injection hb with hb
    subst hb
    exact World.ownsRow.lt h _ rfl
theorem DrAt.norow (h : DrAt w B gd c p) {g : Nat} (hg : w.heap.size ≤ g) : NoRow p g :=
  ⟨fun e => by have := (own_lo h.r1 e).2; omega, fun e => by have := (own_lo h.r2 e).2; omega, fun e => by have := (own_lo h.r3 e).2; omega⟩
theorem DrAt.at (h : DrAt w B gd c p) (y : Below w.heap.size w w') : DrAt w' B gd c p :=
  ⟨h.box.keep y h.box.lt, h.lt, Nat.le_trans h.hs y.size, h.out, own_keepA h.r1 (fun k hk => y.block k (own_lo h.r1 hk).2), own_keepA h.r2 (fun k hk => y.block k (own_lo h.r2 hk).2), own_keepA h.r3 (fun k hk => y.block k (own_lo h.r3 hk).2), h.n12, h.n13, h.n23, h.rng⟩
theorem DrAt.gro (h : DrAt w B gd c p) (y : Gro g w w') (hg : gd ≠ g) (hn : NoRow p g) : DrAt w' B gd c p :=
  ⟨h.box.gro y hg, h.lt, Nat.le_trans h.hs y.size, h.out, own_keepA h.r1 (fun k hk => y.block k (own_lo h.r1 hk).2 (fun e => hn.a1 (by rw [hk, e]))), own_keepA h.r2 (fun k hk => y.block k (own_lo h.r2 hk).2 (fun e => hn.a2 (by rw [hk, e]))), own_keepA h.r3 (fun k hk => y.block k (own_lo h.r3 hk).2 (fun e => hn.a3 (by rw [hk, e]))), h.n12, h.n13, h.n23, h.rng⟩
/-- a store into a field that is no row. -/
theorem DrAt.store (h : DrAt w B gd c p) (ho : Only gd w w') (hb : Bxo w' gd 66 (cfL c' p)) (h1 : c'.routes = c.routes) (h2 : c'.rules = c.rules) (h3 : c'.fwds = c.fwds) (hp : 0 ≤ c'.pub ∧ c'.pub ≤ 4294967295) : DrAt w' B gd c' p := by
  have hlt := h.lt
  refine ⟨hb, h.lt, by rw [ho.size]; exact h.hs, h.out, ?_, ?_, ?_, h.n12, h.n13, h.n23, ⟨by rw [h1]; exact h.rng.routes, by rw [h2]; exact h.rng.rules, hp, by rw [h3]; exact h.rng.fwds⟩⟩
  · rw [h1]; exact own_keepA h.r1 (fun k hk => ho.block k (by have := (own_lo h.r1 hk).1; omega))
  · rw [h2]; exact own_keepA h.r2 (fun k hk => ho.block k (by have := (own_lo h.r2 hk).1; omega))
  · rw [h3]; exact own_keepA h.r3 (fun k hk => ho.block k (by have := (own_lo h.r3 hk).1; omega))
theorem DrAt.cf (h : DrAt w B gd c p) (ht : Tb w) : CfAt w c p :=
  ⟨RtsAt.ofOwn rfl h.r1 h.rng.routes, RusAt.ofOwn rfl h.r2 h.rng.rules, FwsAt.ofOwn rfl h.r3 (fun r hr => ⟨h.rng.fwds r hr⟩), h.rng.pub, ht⟩
theorem DrAt.fresh (h : DrAt w B gd c p) : FreshM B p :=
  ⟨fun ad e => (own_lo h.r1 (b := ad.block) (by rw [e]; rfl)).1, fun ad e => (own_lo h.r2 (b := ad.block) (by rw [e]; rfl)).1, fun ad e => (own_lo h.r3 (b := ad.block) (by rw [e]; rfl)).1⟩
theorem WsAt.only {w w' : World} {B gw gd : Nat} {l : List ByteArray} {bad : Bool} (h : WsAt B w gw l bad) (y : Only gd w w') (hlt : gd < B) (hne : gd ≠ gw) (h7 : 7 < gd) : WsAt B w' gw l bad := by
  obtain ⟨A, c, h1, h2, h3⟩ := h.is
  exact ⟨⟨A, c, h1.only y (Ne.symm hne), ⟨h2.len, h2.cap, h2.nil, h2.rd.gro y.gro (fun ad e => by have := (h3 ad e).2; omega)⟩, h3⟩, h.sz, h.tb.gro y.gro h7, h.out⟩
end
theorem WsAt.newer {w w' : World} {B gw gr : Nat} {l : List ByteArray} {bad : Bool} (h : WsAt B w gw l bad) (y : Only gr w w') (hgt : gw < gr) : WsAt B w' gw l bad := by
  obtain ⟨A, c, h1, h2, h3⟩ := h.is
  exact ⟨⟨A, c, h1.only y (Nat.ne_of_lt hgt), ⟨h2.len, h2.cap, h2.nil, h2.rd.gro y.gro (fun ad e => by have := (h3 ad e).1; omega)⟩, h3⟩, h.sz, h.tb.gro y.gro (Nat.lt_trans h.out hgt), h.out⟩
theorem WsAt.isc {w : World} {B gw : Nat} {l : List ByteArray} {bad : Bool} (h : WsAt B w gw l bad) : IsC w gw := by
  obtain ⟨A, k, h1, _, _⟩ := h.is
  exact ⟨_, _, h1⟩
theorem own_not {W : World} {x B : Nat} {e : TypeId} {k : Nat} {A : Option Addr} {n c : Nat} {xs : List Value} {o : Obj} (h : OwX B e k A n c xs W) (ho : W.heap[x]? = some o) (hc : o.isCells = false) : blk A ≠ some x := fun e => by
  rcases own_addr h with ⟨rfl, _, _⟩ | ⟨g, rfl, h1, h2⟩
  · cases e
  · injection e with e
    obtain ⟨cur, hcur, _⟩ := own_open h
    exact IsC.not ⟨_, _, hcur⟩ (by rw [show g = x from e]; exact ho) hc
/-- what a reader owes. -/
structure RdOut (P : Cf → List Tx → Option Cf) (B gd gw : Nat) (c : Cf) (l : List Tx) (w : World) (e : Ending) (w' : World) : Prop where
  is : e = .returned (.tuple #[])
  out : ∃ (d : Cf) (p' : Cfm) (A : Option Addr) (r : List ByteArray) (k : Nat) (bad : Bool), DrAt w' B gd d p' ∧ Bxo w' gw 85 (wsL A r.length k bad) ∧ P c l = okB (bad || !r.isEmpty) d
  dg : Dg B gd w w'
  tb : Tb w'
def ReaderC (f : Nat) (P : Cf → List Tx → Option Cf) : Prop := ∀ (B gd : Nat) (c : Cf) (p : Cfm) (gw : Nat) (l : List ByteArray) (w : World), DrAt w B gd c p → WsAt B w gw l false → B ≤ gw → NoRow p gw →
  Calls Tryz.prog f #[.pointer (some ⟨gd, 0, none⟩), .pointer (some ⟨gw, 0, none⟩)] w fun e w' => RdOut P B gd gw c (l.map txB) w e w'
/-- behind a reader's last word. -/
theorem RdOut.mk' {P : Cf → List Tx → Option Cf} {B gd gw : Nat} {c d : Cf} {r : List ByteArray} {ls : List Tx} {w w' : World} {p' : Cfm} {bad : Bool} (hd : DrAt w' B gd d p') (hw : WsAt B w' gw r bad) (hp : P c ls = okB (bad || !r.isEmpty) d) (dg : Dg B gd w w') : RdOut P B gd gw c ls w (.returned (.tuple #[])) w' := by
  obtain ⟨A, k, h1, _, _⟩ := hw.is
  exact ⟨rfl, ⟨d, p', A, r, k, bad, hd, h1, hp⟩, dg, hw.tb⟩
theorem map_tail (l : List ByteArray) : (l.map txB).tail = l.tail.map txB := by cases l <;> rfl
theorem map_hd (l : List ByteArray) : hdL (l.map txB) = hdT l := by cases l <;> rfl
theorem map_emp (l : List ByteArray) : (l.map txB).isEmpty = l.isEmpty := by cases l <;> rfl
end Go.Proofs.YtoghcefamoefpaaGreatDoor

/- The landed conf: the lines outside, public, life, budget. -/
namespace Go.Proofs.YtoghcefamoefpaaGreatDoor
open Go.ChangeShapes Go.WideShapes Go.ChangeAt Go.RowKit
set_option linter.unusedVariables false
set_option linter.unusedSimpArgs false

theorem info_i1 : (Tryz.prog.info? 3).map (·.size) = some 1 := by kernel_rfl
theorem info_u1 : (Tryz.prog.info? 24).map (·.size) = some 1 := by kernel_rfl
set_option maxRecDepth 100000 in
set_option maxHeartbeats 2000000 in
theorem coutside15 : ReaderC 54 outsideP := by
  intro B gd c p gw l w hd hw hB hn
  have hlt := hd.lt
  have hne : gd ≠ gw := by omega
  obtain ⟨q0, hq0⟩ : ∃ q, numP (hdT l) = q := ⟨_, rfl⟩
  have k0 := fun w h => cnumber15 (B := B) gw l (false) w h q0 hq0
  have hP : outsideP c (l.map txB) = okB ((false || !q0.isSome) || !l.tail.isEmpty) { c with outside := q0.getD 0 } := by
    rw [outside_seq]
    simp only [map_tail, nQ, aQ, map_hd, map_emp, hq0]
  generalize q0.getD 0 = n0 at *
  generalize q0.isSome = b0 at *
  have K0 := Go.Lib.hid k0
  have tok0 : True := trivial
  have tos0 : True := trivial
  have HP := Go.Lib.hid hP
  have D0 := Go.Lib.hid hd
  have W0 := Go.Lib.hid hw
  have HNR := Go.Lib.hid hn
  have H7 := Go.Lib.hid hd.out
  have HHS := Go.Lib.hid hd.hs
  clear k0 hP hd hw hn hq0
  go_enter Tryz.func54, Tryz.ntmps54
  go_wp2_with (first
    | (clear tok0; go_at_call 69; refine (K0.out w W0.out).mono ?_; rintro e wa0 ⟨rfl, ha, ga⟩; have W0a := Go.Lib.hid ha; have D0a := Go.Lib.hid (D0.out.gro ga hne HNR.out); have G1 : Hid (Dg B gd w wa0) := Go.Lib.hid ((show Dg B gd w w from Dg.refl).trans (Dg.ofGro ga hB D0.out.hs W0.out.isc)); clear ha ga; dsimp only)
    | (clear tos0; refine wpList_store_any rfl 3 _ _ rfl gd 2 66 _ [.int .i64 n0] _ rfl rfl rfl D0a.out.box info_i1 (by show 2 + 1 ≤ 10; omega) (by intro u hu; rw [List.mem_singleton.1 hu]; rfl) ?_; intro wb0 hb ho; have D1 : Hid (DrAt wb0 B gd { c with outside := n0 } p) := Go.Lib.hid (D0a.out.store ho hb rfl rfl rfl D0a.out.rng.pub); have W1 := Go.Lib.hid (W0a.out.only ho hlt hne H7.out); have G2 : Hid (Dg B gd w wb0) := Go.Lib.hid (G1.out.trans (Dg.ofOnly ho ⟨_, _, D0a.out.box⟩)); clear hb ho))
  go_end0
  exact RdOut.mk' D1.out W1.out HP.out G2.out
set_option maxRecDepth 100000 in
set_option maxHeartbeats 2000000 in
theorem cbudget15 : ReaderC 58 budgetP := by
  intro B gd c p gw l w hd hw hB hn
  have hlt := hd.lt
  have hne : gd ≠ gw := by omega
  obtain ⟨q0, hq0⟩ : ∃ q, numP (hdT l) = q := ⟨_, rfl⟩
  have k0 := fun w h => cnumber15 (B := B) gw l (false) w h q0 hq0
  have hP : budgetP c (l.map txB) = okB ((false || !q0.isSome) || !l.tail.isEmpty) { c with budget := q0.getD 0 } := by
    rw [budget_seq]
    simp only [map_tail, nQ, aQ, map_hd, map_emp, hq0]
  generalize q0.getD 0 = n0 at *
  generalize q0.isSome = b0 at *
  have K0 := Go.Lib.hid k0
  have tok0 : True := trivial
  have tos0 : True := trivial
  have HP := Go.Lib.hid hP
  have D0 := Go.Lib.hid hd
  have W0 := Go.Lib.hid hw
  have HNR := Go.Lib.hid hn
  have H7 := Go.Lib.hid hd.out
  have HHS := Go.Lib.hid hd.hs
  clear k0 hP hd hw hn hq0
  go_enter Tryz.func58, Tryz.ntmps58
  go_wp2_with (first
    | (clear tok0; go_at_call 69; refine (K0.out w W0.out).mono ?_; rintro e wa0 ⟨rfl, ha, ga⟩; have W0a := Go.Lib.hid ha; have D0a := Go.Lib.hid (D0.out.gro ga hne HNR.out); have G1 : Hid (Dg B gd w wa0) := Go.Lib.hid ((show Dg B gd w w from Dg.refl).trans (Dg.ofGro ga hB D0.out.hs W0.out.isc)); clear ha ga; dsimp only)
    | (clear tos0; refine wpList_store_any rfl 3 _ _ rfl gd 9 66 _ [.int .i64 n0] _ rfl rfl rfl D0a.out.box info_i1 (by show 9 + 1 ≤ 10; omega) (by intro u hu; rw [List.mem_singleton.1 hu]; rfl) ?_; intro wb0 hb ho; have D1 : Hid (DrAt wb0 B gd { c with budget := n0 } p) := Go.Lib.hid (D0a.out.store ho hb rfl rfl rfl D0a.out.rng.pub); have W1 := Go.Lib.hid (W0a.out.only ho hlt hne H7.out); have G2 : Hid (Dg B gd w wb0) := Go.Lib.hid (G1.out.trans (Dg.ofOnly ho ⟨_, _, D0a.out.box⟩)); clear hb ho))
  go_end0
  exact RdOut.mk' D1.out W1.out HP.out G2.out
set_option maxRecDepth 100000 in
set_option maxHeartbeats 2000000 in
theorem clife15 : ReaderC 57 lifeP := by
  intro B gd c p gw l w hd hw hB hn
  have hlt := hd.lt
  have hne : gd ≠ gw := by omega
  obtain ⟨q0, hq0⟩ : ∃ q, numP (hdT l) = q := ⟨_, rfl⟩
  obtain ⟨q1, hq1⟩ : ∃ q, numP (hdT l.tail) = q := ⟨_, rfl⟩
  have k0 := fun w h => cnumber15 (B := B) gw l (false) w h q0 hq0
  have k1 := fun w h => cnumber15 (B := B) gw l.tail (false || !q0.isSome) w h q1 hq1
  have hP : lifeP c (l.map txB) = okB (((false || !q0.isSome) || !q1.isSome) || !l.tail.tail.isEmpty) { c with tcp := q0.getD 0, other := q1.getD 0 } := by
    rw [life_seq]
    simp only [map_tail, nQ, aQ, map_hd, map_emp, hq0, hq1]
  generalize q0.getD 0 = n0 at *
  generalize q0.isSome = b0 at *
  generalize q1.getD 0 = n1 at *
  generalize q1.isSome = b1 at *
  have K0 := Go.Lib.hid k0
  have tok0 : True := trivial
  have tos0 : True := trivial
  have K1 := Go.Lib.hid k1
  have tok1 : True := trivial
  have tos1 : True := trivial
  have HP := Go.Lib.hid hP
  have D0 := Go.Lib.hid hd
  have W0 := Go.Lib.hid hw
  have HNR := Go.Lib.hid hn
  have H7 := Go.Lib.hid hd.out
  have HHS := Go.Lib.hid hd.hs
  clear k0 k1 hP hd hw hn hq0 hq1
  go_enter Tryz.func57, Tryz.ntmps57
  go_wp2_with (first
    | (clear tok0; go_at_call 69; refine (K0.out w W0.out).mono ?_; rintro e wa0 ⟨rfl, ha, ga⟩; have W0a := Go.Lib.hid ha; have D0a := Go.Lib.hid (D0.out.gro ga hne HNR.out); have G1 : Hid (Dg B gd w wa0) := Go.Lib.hid ((show Dg B gd w w from Dg.refl).trans (Dg.ofGro ga hB D0.out.hs W0.out.isc)); clear ha ga; dsimp only)
    | (clear tos0; refine wpList_store_any rfl 3 _ _ rfl gd 7 66 _ [.int .i64 n0] _ rfl rfl rfl D0a.out.box info_i1 (by show 7 + 1 ≤ 10; omega) (by intro u hu; rw [List.mem_singleton.1 hu]; rfl) ?_; intro wb0 hb ho; have D1 : Hid (DrAt wb0 B gd { c with tcp := n0 } p) := Go.Lib.hid (D0a.out.store ho hb rfl rfl rfl D0a.out.rng.pub); have W1 := Go.Lib.hid (W0a.out.only ho hlt hne H7.out); have G2 : Hid (Dg B gd w wb0) := Go.Lib.hid (G1.out.trans (Dg.ofOnly ho ⟨_, _, D0a.out.box⟩)); clear hb ho)
    | (clear tok1; go_at_call 69; refine (K1.out wb0 W1.out).mono ?_; rintro e wa1 ⟨rfl, ha, ga⟩; have W1a := Go.Lib.hid ha; have D1a := Go.Lib.hid (D1.out.gro ga hne HNR.out); have G3 : Hid (Dg B gd w wa1) := Go.Lib.hid ((show Dg B gd w wb0 from G2.out).trans (Dg.ofGro ga hB D1.out.hs W1.out.isc)); clear ha ga; dsimp only)
    | (clear tos1; refine wpList_store_any rfl 3 _ _ rfl gd 8 66 _ [.int .i64 n1] _ rfl rfl rfl D1a.out.box info_i1 (by show 8 + 1 ≤ 10; omega) (by intro u hu; rw [List.mem_singleton.1 hu]; rfl) ?_; intro wb1 hb ho; have D2 : Hid (DrAt wb1 B gd { { c with tcp := n0 } with other := n1 } p) := Go.Lib.hid (D1a.out.store ho hb rfl rfl rfl D1a.out.rng.pub); have W2 := Go.Lib.hid (W1a.out.only ho hlt hne H7.out); have G4 : Hid (Dg B gd w wb1) := Go.Lib.hid (G3.out.trans (Dg.ofOnly ho ⟨_, _, D1a.out.box⟩)); clear hb ho))
  go_end0
  exact RdOut.mk' D2.out W2.out HP.out G4.out
set_option maxRecDepth 100000 in
set_option maxHeartbeats 2000000 in
theorem cpublic15 : ReaderC 55 publicP := by
  intro B gd c p gw l w hd hw hB hn
  have hlt := hd.lt
  have hne : gd ≠ gw := by omega
  obtain ⟨q0, hq0⟩ : ∃ q, addrP (hdT l) = q := ⟨_, rfl⟩
  obtain ⟨q1, hq1⟩ : ∃ q, numP (hdT l.tail) = q := ⟨_, rfl⟩
  obtain ⟨q2, hq2⟩ : ∃ q, numP (hdT l.tail.tail) = q := ⟨_, rfl⟩
  have hr0 : 0 ≤ q0.getD 0 ∧ q0.getD 0 ≤ 4294967295 := by
    cases hx : q0 with
    | none => decide
    | some v => rw [hx] at hq0; exact addrP_rng hq0
  have k0 := fun w h => caddress15 (B := B) gw l (false) w h q0 hq0
  have k1 := fun w h => cnumber15 (B := B) gw l.tail (false || !q0.isSome) w h q1 hq1
  have k2 := fun w h => cnumber15 (B := B) gw l.tail.tail ((false || !q0.isSome) || !q1.isSome) w h q2 hq2
  have hP : publicP c (l.map txB) = okB ((((false || !q0.isSome) || !q1.isSome) || !q2.isSome) || !l.tail.tail.tail.isEmpty) { c with pub := q0.getD 0, lo := q1.getD 0, hi := q2.getD 0 } := by
    rw [public_seq]
    simp only [map_tail, nQ, aQ, map_hd, map_emp, hq0, hq1, hq2]
  generalize q0.getD 0 = n0 at *
  generalize q0.isSome = b0 at *
  generalize q1.getD 0 = n1 at *
  generalize q1.isSome = b1 at *
  generalize q2.getD 0 = n2 at *
  generalize q2.isSome = b2 at *
  have K0 := Go.Lib.hid k0
  have tok0 : True := trivial
  have tos0 : True := trivial
  have K1 := Go.Lib.hid k1
  have tok1 : True := trivial
  have tos1 : True := trivial
  have K2 := Go.Lib.hid k2
  have tok2 : True := trivial
  have tos2 : True := trivial
  have HP := Go.Lib.hid hP
  have D0 := Go.Lib.hid hd
  have W0 := Go.Lib.hid hw
  have HNR := Go.Lib.hid hn
  have H7 := Go.Lib.hid hd.out
  have HHS := Go.Lib.hid hd.hs
  clear k0 k1 k2 hP hd hw hn hq0 hq1 hq2
  go_enter Tryz.func55, Tryz.ntmps55
  go_wp2_with (first
    | (clear tok0; go_at_call 71; refine (K0.out w W0.out).mono ?_; rintro e wa0 ⟨rfl, ha, ga⟩; have W0a := Go.Lib.hid ha; have D0a := Go.Lib.hid (D0.out.gro ga hne HNR.out); have G1 : Hid (Dg B gd w wa0) := Go.Lib.hid ((show Dg B gd w w from Dg.refl).trans (Dg.ofGro ga hB D0.out.hs W0.out.isc)); clear ha ga; dsimp only)
    | (clear tos0; refine wpList_store_any rfl 24 _ _ rfl gd 3 66 _ [.int .u32 n0] _ rfl rfl rfl D0a.out.box info_u1 (by show 3 + 1 ≤ 10; omega) (by intro u hu; rw [List.mem_singleton.1 hu]; rfl) ?_; intro wb0 hb ho; have D1 : Hid (DrAt wb0 B gd { c with pub := n0 } p) := Go.Lib.hid (D0a.out.store ho hb rfl rfl rfl hr0); have W1 := Go.Lib.hid (W0a.out.only ho hlt hne H7.out); have G2 : Hid (Dg B gd w wb0) := Go.Lib.hid (G1.out.trans (Dg.ofOnly ho ⟨_, _, D0a.out.box⟩)); clear hb ho)
    | (clear tok1; go_at_call 69; refine (K1.out wb0 W1.out).mono ?_; rintro e wa1 ⟨rfl, ha, ga⟩; have W1a := Go.Lib.hid ha; have D1a := Go.Lib.hid (D1.out.gro ga hne HNR.out); have G3 : Hid (Dg B gd w wa1) := Go.Lib.hid ((show Dg B gd w wb0 from G2.out).trans (Dg.ofGro ga hB D1.out.hs W1.out.isc)); clear ha ga; dsimp only)
    | (clear tos1; refine wpList_store_any rfl 3 _ _ rfl gd 4 66 _ [.int .i64 n1] _ rfl rfl rfl D1a.out.box info_i1 (by show 4 + 1 ≤ 10; omega) (by intro u hu; rw [List.mem_singleton.1 hu]; rfl) ?_; intro wb1 hb ho; have D2 : Hid (DrAt wb1 B gd { { c with pub := n0 } with lo := n1 } p) := Go.Lib.hid (D1a.out.store ho hb rfl rfl rfl D1a.out.rng.pub); have W2 := Go.Lib.hid (W1a.out.only ho hlt hne H7.out); have G4 : Hid (Dg B gd w wb1) := Go.Lib.hid (G3.out.trans (Dg.ofOnly ho ⟨_, _, D1a.out.box⟩)); clear hb ho)
    | (clear tok2; go_at_call 69; refine (K2.out wb1 W2.out).mono ?_; rintro e wa2 ⟨rfl, ha, ga⟩; have W2a := Go.Lib.hid ha; have D2a := Go.Lib.hid (D2.out.gro ga hne HNR.out); have G5 : Hid (Dg B gd w wa2) := Go.Lib.hid ((show Dg B gd w wb1 from G4.out).trans (Dg.ofGro ga hB D2.out.hs W2.out.isc)); clear ha ga; dsimp only)
    | (clear tos2; refine wpList_store_any rfl 3 _ _ rfl gd 5 66 _ [.int .i64 n2] _ rfl rfl rfl D2a.out.box info_i1 (by show 5 + 1 ≤ 10; omega) (by intro u hu; rw [List.mem_singleton.1 hu]; rfl) ?_; intro wb2 hb ho; have D3 : Hid (DrAt wb2 B gd { { { c with pub := n0 } with lo := n1 } with hi := n2 } p) := Go.Lib.hid (D2a.out.store ho hb rfl rfl rfl D2a.out.rng.pub); have W3 := Go.Lib.hid (W2a.out.only ho hlt hne H7.out); have G6 : Hid (Dg B gd w wb2) := Go.Lib.hid (G5.out.trans (Dg.ofOnly ho ⟨_, _, D2a.out.box⟩)); clear hb ho))
  go_end0
  exact RdOut.mk' D3.out W3.out HP.out G6.out
end Go.Proofs.YtoghcefamoefpaaGreatDoor

/- append of a slice that may be nil, of elements of several cells, as a step of a region that draws; rows of the call's own, carried. -/
namespace Go.Proofs.YtoghcefamoefpaaGreatDoor
open Go.ChangeShapes Go.WideShapes Go.ChangeAt Go.RowKit
set_option linter.unusedVariables false
set_option linter.unusedSimpArgs false

theorem step_append_rdK {P : Program} {op : Oper} {a : Act} {w : World} {K : Act → World → Prop} {Q : Exit → Act → World → Prop} (s x : Operand) (t : TypeId)
    (ho : op.op = .call { callee := .builtin .append, args := #[s, x], argTypes := #[t, t] })
    (base : Nat) (e : TypeId) (i : TypeInfo) (z : Value) (k bytes : Nat) (ht : P.underlying t = some (.slice e)) (hi : P.info? e = some i) (hz : i.zero = some z)
    (hsize : i.size = k) (hby : i.bytes = bytes) (hzs : z.cells.size = k) (hk : 0 < k)
    (v : Value) (n : Nat) (xs : List Value) (hs : a.eval s = v) (hown : w.ownsRow base e k v n xs)
    (A : Option Addr) (m c : Nat) (news : List Value) (hx : a.eval x = .slice A m c) (hm : news.length = m * k) (hc : A = none → c = 0 ∧ m = 0) (hr : RdC w A news) (h1 : ∀ u ∈ news, u.oneCell' = true)
    (h63 : n + m ≤ maxLen) (hbytes : (n + m) * bytes ≤ 140737488355328) (hbase : base ≤ w.heap.size)
    (h : ∀ v' w', w'.ownsRow base e k v' (n + m) (xs ++ news) → w.grownBy w' v.ownBlock → (v'.ownBlock = v.ownBlock ∨ v'.ownBlock = some w.heap.size) → K (a.put op.dst v') w') : op.wp P a w K Q := by
  rcases A with _ | ad
  · obtain ⟨rfl, rfl⟩ := hc rfl
    have hn : news = [] := List.eq_nil_of_length_eq_zero (by simpa using hm)
    subst hn
    have hrun := run_append_owned_none (P := P) (w := w) base t op.type e i k ht hi v n xs hown
    unfold Oper.wp execOp
    simp only [ho, resolve, invoke, builtin, Sem.run_bind, Sem.run_pure, Result.andThen_ok, List.map_toArray, List.map_cons, List.map_nil, hs, hx, hrun]
    exact h v w (by simpa using hown) (World.grownBy.refl w _) (.inl rfl)
  · have hnews : ∀ j u, news[j]? = some u → w.cell? (ad.add j) = some u := fun j u hj => by
      rcases hr with h | ⟨ad', h', hcell⟩
      · subst h; simp at hj
      · cases h'; exact hcell j u hj
    obtain ⟨v', w', hr, h2, h3, h4, h5⟩ := run_append_own_at (P := P) w base t op.type e i z k bytes ht hi hz hsize hby hzs hk v n xs hown ad m c news hm hnews h1 h63 hbytes hbase
    unfold Oper.wp execOp
    simp only [ho, resolve, invoke, builtin, Sem.run_bind, Sem.run_pure, Result.andThen_ok, List.map_toArray, List.map_cons, List.map_nil, hs, hx, hr]
    exact h v' w' h2 h3 h5
/-- a row of the call's own. -/
structure OwR (base : Nat) (e : TypeId) (k : Nat) (A : Option Addr) (n c : Nat) (xs : List Value) (w : World) : Prop where
  own : w.ownsRow base e k (.slice A n c) n xs
section
variable {base k n c : Nat} {e : TypeId} {A : Option Addr} {xs : List Value} {w w' : World}
theorem OwR.ge (h : OwR base e k A n c xs w) : ∀ g, blk A = some g → base ≤ g := fun g hg => by
  rcases own_addr h.own with ⟨rfl, _⟩ | ⟨g', rfl, h1, h2⟩
  · cases hg
  · injection hg with hg; subst hg; exact h1
theorem OwR.lt (h : OwR base e k A n c xs w) : ∀ g, blk A = some g → g < w.heap.size := fun g hg => by
  rcases own_addr h.own with ⟨rfl, _⟩ | ⟨g', rfl, h1, h2⟩
  · cases hg
  · injection hg with hg; subst hg; exact h2
theorem OwR.at (h : OwR base e k A n c xs w) (y : Below w.heap.size w w') : OwR base e k A n c xs w' := ⟨own_keepA h.own (fun g hg => y.block g (h.lt g hg))⟩
theorem OwR.drew (h : OwR base e k A n c xs w) : OwR base e k A n c xs w.drew := ⟨own_keepA h.own (fun _ _ => rfl)⟩
theorem OwR.made (w : World) (base : Nat) (e : TypeId) (k : Nat) (hb : base ≤ w.heap.size) : OwR base e k (some ⟨w.heap.size, 0, none⟩) 0 0 [] (w.alloc (.cells #[] e)) := ⟨World.ownsRow_made w #[] 0 hb (by unfold maxLen; omega) (by simp)⟩
/-- what has grown is of the call's own. -/
theorem grownW {row : Option Nat} {B : Nat} (h : w.grownBy w' row) (hr : ∀ g, row = some g → B ≤ g) (hB : B ≤ w.heap.size) : Below B w w' :=
  ⟨h.os, h.tape, h.output, h.size, fun b hb => h.block b (by omega) (fun e => by have := hr b e.symm; omega)⟩
theorem OwR.rd (h : OwR base e k A n c xs w) : RdC w A xs := own_rd h.own
end
/-- a row's first ones; its last ones. -/
theorem RdC.take {w : World} {A : Option Addr} {cs : List Value} (h : RdC w A cs) (n : Nat) : RdC w A (cs.take n) := by
  rcases h with h | ⟨ad, e, hc⟩
  · exact .inl (by rw [h]; simp)
  · exact .inr ⟨ad, e, fun j u hj => hc j u (by rw [List.getElem?_take] at hj; split at hj; exact hj; cases hj)⟩
theorem RdC.drop {w : World} {A : Option Addr} {cs : List Value} (h : RdC w A cs) (n : Nat) {A' : Option Addr} (hA : ∀ ad, A = some ad → A' = some (ad.add n)) : RdC w A' (cs.drop n) := by
  rcases h with h | ⟨ad, e, hc⟩
  · exact .inl (by rw [h]; simp)
  · refine .inr ⟨ad.add n, hA ad e, fun j u hj => ?_⟩
    rw [add_add]
    rw [List.getElem?_drop] at hj
    exact hc _ u hj
end Go.Proofs.YtoghcefamoefpaaGreatDoor

/- The landed conf: rows of a draft that grow. -/
namespace Go.Proofs.YtoghcefamoefpaaGreatDoor
open Go.ChangeShapes Go.WideShapes Go.ChangeAt Go.RowKit
set_option linter.unusedVariables false
set_option linter.unusedSimpArgs false

theorem Tb.dg {w w' : World} {B gd : Nat} (h : Tb w) (y : Dg B gd w w') (h7 : 7 < gd) (hlt : gd < B) : Tb w' := by
  have hc : ∀ (k : Nat) v, k ≤ 7 → w.cell? ⟨k, 0, none⟩ = some v → w'.cell? ⟨k, 0, none⟩ = some v := fun k v hk ha => by
    rw [World.cell?_of_block (y.block k (by omega) (by omega))]
    exact ha
  obtain ⟨m, hm⟩ := h.mx
  obtain ⟨t1, p1, h1⟩ := h.es
  obtain ⟨t2, p2, h2⟩ := h.er
  refine ⟨⟨m, hc _ _ (by decide) hm⟩, ⟨t1, p1, hc _ _ (by decide) h1⟩, ⟨t2, p2, hc _ _ (by decide) h2⟩, ?_⟩
  have e := h.tab
  unfold Lib.TabIs World.var? at e ⊢
  rw [tab_at] at e ⊢
  have hh : w'.heap[0]? = w.heap[0]? := y.block _ (by omega) (by omega)
  revert e
  show (match w.heap[0]? with | some (.cells cs _ _) => some cs | _ => none) = _ → (match w'.heap[0]? with | some (.cells cs _ _) => some cs | _ => none) = _
  rw [hh]
  exact fun e => e
theorem DrAt.app1 {w w8 : World} {B gd : Nat} {c : Cf} {p : Cfm} {x : Rt} {A8 : Option Addr} {c8 : Nat} (h : DrAt w B gd c p) (hx : RngRt x)
    (ho : w8.ownsRow B 46 4 (.slice A8 (c.routes.length + 1) c8) (c.routes.length + 1) (c.routes.flatMap Rt.L ++ Rt.L x)) (hg : w.grownBy w8 (blk p.A1)) (ha : blk A8 = blk p.A1 ∨ blk A8 = some w.heap.size) :
    Bxo w8 gd 66 (cfL c p) ∧ Dg B gd w w8 ∧ (∀ w9, Only gd w8 w9 → Bxo w9 gd 66 (cfL { c with routes := c.routes ++ [x] } { p with A1 := A8, c1 := c8 }) → DrAt w9 B gd { c with routes := c.routes ++ [x] } { p with A1 := A8, c1 := c8 }) := by
  have hlt := h.lt
  have hs := h.hs
  have hbx : ∀ k, k < w.heap.size → blk p.A1 ≠ some k → w8.heap[k]? = w.heap[k]? := fun k hk hn => hg.block k hk (fun e => hn e.symm)
  refine ⟨(hbx gd h.box.lt (fun e => by have := (own_lo h.r1 e).1; omega)).trans h.box, ⟨hg.os, hg.tape, hg.output, hg.size, fun k hk _ => hbx k (by omega) (fun e => by have := (own_lo h.r1 e).1; omega), fun k o hk ho => (hbx k (at_lt hk) (own_not h.r1 hk ho)).trans hk⟩, fun w9 h9 hb9 => ?_⟩
  have keep : ∀ k, k < w.heap.size → blk p.A1 ≠ some k → k ≠ gd → w9.heap[k]? = w.heap[k]? := fun k hk hn hne => (h9.block k hne).trans (hbx k hk hn)
  have hB8 : ∀ k, blk A8 = some k → B ≤ k := fun k hk => (own_lo ho hk).1
  have hnew : ∀ k, k < w.heap.size → blk p.A1 ≠ some k → blk A8 ≠ some k := fun k hk hn e => by
    rcases ha with q | q
    · exact hn (by rw [← q]; exact e)
    · rw [q] at e; injection e with e; omega
  exact ⟨hb9, h.lt, by rw [h9.size]; exact Nat.le_trans hs hg.size, h.out,
    by
      have e1 : (c.routes ++ [x]).length = c.routes.length + 1 := by simp
      have e2 : (c.routes ++ [x]).flatMap Rt.L = c.routes.flatMap Rt.L ++ Rt.L x := by simp
      show w9.ownsRow B _ 4 (.slice A8 (c.routes ++ [x]).length c8) (c.routes ++ [x]).length ((c.routes ++ [x]).flatMap Rt.L)
      rw [e1, e2]
      exact own_keepA ho (fun k hk => h9.block k (by have := hB8 k hk; omega)),
    own_keepA h.r2 (fun k hk => keep k (own_lo h.r2 hk).2 ((fun k hk e => h.n12 k e hk) k hk) (by have := (own_lo h.r2 hk).1; omega)),
    own_keepA h.r3 (fun k hk => keep k (own_lo h.r3 hk).2 ((fun k hk e => h.n13 k e hk) k hk) (by have := (own_lo h.r3 hk).1; omega)),
    (fun k hk e => hnew k (own_lo h.r2 e).2 ((fun k hk e => h.n12 k e hk) k e) hk), (fun k hk e => hnew k (own_lo h.r3 e).2 ((fun k hk e => h.n13 k e hk) k e) hk), h.n23, h.rng.route hx⟩
theorem DrAt.app2 {w w8 : World} {B gd : Nat} {c : Cf} {p : Cfm} {x : Ru} {A8 : Option Addr} {c8 : Nat} (h : DrAt w B gd c p) (hx : RngRu x)
    (ho : w8.ownsRow B 54 10 (.slice A8 (c.rules.length + 1) c8) (c.rules.length + 1) (c.rules.flatMap Ru.L ++ Ru.L x)) (hg : w.grownBy w8 (blk p.A2)) (ha : blk A8 = blk p.A2 ∨ blk A8 = some w.heap.size) :
    Bxo w8 gd 66 (cfL c p) ∧ Dg B gd w w8 ∧ (∀ w9, Only gd w8 w9 → Bxo w9 gd 66 (cfL { c with rules := c.rules ++ [x] } { p with A2 := A8, c2 := c8 }) → DrAt w9 B gd { c with rules := c.rules ++ [x] } { p with A2 := A8, c2 := c8 }) := by
  have hlt := h.lt
  have hs := h.hs
  have hbx : ∀ k, k < w.heap.size → blk p.A2 ≠ some k → w8.heap[k]? = w.heap[k]? := fun k hk hn => hg.block k hk (fun e => hn e.symm)
  refine ⟨(hbx gd h.box.lt (fun e => by have := (own_lo h.r2 e).1; omega)).trans h.box, ⟨hg.os, hg.tape, hg.output, hg.size, fun k hk _ => hbx k (by omega) (fun e => by have := (own_lo h.r2 e).1; omega), fun k o hk ho => (hbx k (at_lt hk) (own_not h.r2 hk ho)).trans hk⟩, fun w9 h9 hb9 => ?_⟩
  have keep : ∀ k, k < w.heap.size → blk p.A2 ≠ some k → k ≠ gd → w9.heap[k]? = w.heap[k]? := fun k hk hn hne => (h9.block k hne).trans (hbx k hk hn)
  have hB8 : ∀ k, blk A8 = some k → B ≤ k := fun k hk => (own_lo ho hk).1
  have hnew : ∀ k, k < w.heap.size → blk p.A2 ≠ some k → blk A8 ≠ some k := fun k hk hn e => by
    rcases ha with q | q
    · exact hn (by rw [← q]; exact e)
    · rw [q] at e; injection e with e; omega
  exact ⟨hb9, h.lt, by rw [h9.size]; exact Nat.le_trans hs hg.size, h.out,
    own_keepA h.r1 (fun k hk => keep k (own_lo h.r1 hk).2 ((fun k hk => h.n12 k hk) k hk) (by have := (own_lo h.r1 hk).1; omega)),
    by
      have e1 : (c.rules ++ [x]).length = c.rules.length + 1 := by simp
      have e2 : (c.rules ++ [x]).flatMap Ru.L = c.rules.flatMap Ru.L ++ Ru.L x := by simp
      show w9.ownsRow B _ 10 (.slice A8 (c.rules ++ [x]).length c8) (c.rules ++ [x]).length ((c.rules ++ [x]).flatMap Ru.L)
      rw [e1, e2]
      exact own_keepA ho (fun k hk => h9.block k (by have := hB8 k hk; omega)),
    own_keepA h.r3 (fun k hk => keep k (own_lo h.r3 hk).2 ((fun k hk e => h.n23 k e hk) k hk) (by have := (own_lo h.r3 hk).1; omega)),
    (fun k hk => hnew k (own_lo h.r1 hk).2 ((fun k hk => h.n12 k hk) k hk)), h.n13, (fun k hk e => hnew k (own_lo h.r3 e).2 ((fun k hk e => h.n23 k e hk) k e) hk), h.rng.rule hx⟩
theorem DrAt.app3 {w w8 : World} {B gd : Nat} {c : Cf} {p : Cfm} {x : Fw} {A8 : Option Addr} {c8 : Nat} (h : DrAt w B gd c p) (hx : 0 ≤ x.addr ∧ x.addr ≤ 4294967295)
    (ho : w8.ownsRow B 40 5 (.slice A8 (c.fwds.length + 1) c8) (c.fwds.length + 1) (c.fwds.flatMap Fw.L ++ Fw.L x)) (hg : w.grownBy w8 (blk p.A3)) (ha : blk A8 = blk p.A3 ∨ blk A8 = some w.heap.size) :
    Bxo w8 gd 66 (cfL c p) ∧ Dg B gd w w8 ∧ (∀ w9, Only gd w8 w9 → Bxo w9 gd 66 (cfL { c with fwds := c.fwds ++ [x] } { p with A3 := A8, c3 := c8 }) → DrAt w9 B gd { c with fwds := c.fwds ++ [x] } { p with A3 := A8, c3 := c8 }) := by
  have hlt := h.lt
  have hs := h.hs
  have hbx : ∀ k, k < w.heap.size → blk p.A3 ≠ some k → w8.heap[k]? = w.heap[k]? := fun k hk hn => hg.block k hk (fun e => hn e.symm)
  refine ⟨(hbx gd h.box.lt (fun e => by have := (own_lo h.r3 e).1; omega)).trans h.box, ⟨hg.os, hg.tape, hg.output, hg.size, fun k hk _ => hbx k (by omega) (fun e => by have := (own_lo h.r3 e).1; omega), fun k o hk ho => (hbx k (at_lt hk) (own_not h.r3 hk ho)).trans hk⟩, fun w9 h9 hb9 => ?_⟩
  have keep : ∀ k, k < w.heap.size → blk p.A3 ≠ some k → k ≠ gd → w9.heap[k]? = w.heap[k]? := fun k hk hn hne => (h9.block k hne).trans (hbx k hk hn)
  have hB8 : ∀ k, blk A8 = some k → B ≤ k := fun k hk => (own_lo ho hk).1
  have hnew : ∀ k, k < w.heap.size → blk p.A3 ≠ some k → blk A8 ≠ some k := fun k hk hn e => by
    rcases ha with q | q
    · exact hn (by rw [← q]; exact e)
    · rw [q] at e; injection e with e; omega
  exact ⟨hb9, h.lt, by rw [h9.size]; exact Nat.le_trans hs hg.size, h.out,
    own_keepA h.r1 (fun k hk => keep k (own_lo h.r1 hk).2 ((fun k hk => h.n13 k hk) k hk) (by have := (own_lo h.r1 hk).1; omega)),
    own_keepA h.r2 (fun k hk => keep k (own_lo h.r2 hk).2 ((fun k hk => h.n23 k hk) k hk) (by have := (own_lo h.r2 hk).1; omega)),
    by
      have e1 : (c.fwds ++ [x]).length = c.fwds.length + 1 := by simp
      have e2 : (c.fwds ++ [x]).flatMap Fw.L = c.fwds.flatMap Fw.L ++ Fw.L x := by simp
      show w9.ownsRow B _ 5 (.slice A8 (c.fwds ++ [x]).length c8) (c.fwds ++ [x]).length ((c.fwds ++ [x]).flatMap Fw.L)
      rw [e1, e2]
      exact own_keepA ho (fun k hk => h9.block k (by have := hB8 k hk; omega)),
    h.n12, (fun k hk => hnew k (own_lo h.r1 hk).2 ((fun k hk => h.n13 k hk) k hk)), (fun k hk => hnew k (own_lo h.r2 hk).2 ((fun k hk => h.n23 k hk) k hk)), h.rng.fwd hx⟩
structure SzC (c : Cf) (n : Nat) : Prop where
  a : c.routes.length ≤ n
  b : c.rules.length ≤ n
  c : c.fwds.length ≤ n
def ReaderS (f : Nat) (P : Cf → List Tx → Option Cf) : Prop := ∀ (B gd : Nat) (c : Cf) (p : Cfm) (gw : Nat) (l : List ByteArray) (w : World), SzC c 1000 → DrAt w B gd c p → WsAt B w gw l false → B ≤ gw → NoRow p gw →
  Calls Tryz.prog f #[.pointer (some ⟨gd, 0, none⟩), .pointer (some ⟨gw, 0, none⟩)] w fun e w' => RdOut P B gd gw c (l.map txB) w e w'
theorem ReaderC.s {f : Nat} {P : Cf → List Tx → Option Cf} (h : ReaderC f P) : ReaderS f P := fun B gd c p gw l w _ => h B gd c p gw l w
theorem Bxo.grown {w w8 : World} {g : Nat} {ty : TypeId} {cs : List Value} {A : Option Addr} (h : Bxo w g ty cs) (hg : w.grownBy w8 (blk A)) (hn : blk A ≠ some g) : Bxo w8 g ty cs := (hg.block g h.lt (fun e => hn e.symm)).trans h
end Go.Proofs.YtoghcefamoefpaaGreatDoor

/- The landed conf: the lines route, rule, forward. -/
namespace Go.Proofs.YtoghcefamoefpaaGreatDoor
open Go.ChangeShapes Go.WideShapes Go.ChangeAt Go.RowKit
set_option linter.unusedVariables false
set_option linter.unusedSimpArgs false

theorem perh_tx (l : List ByteArray) : perhQ l = (hdT l == kProxy) := rfl
theorem info_sl1 : (Tryz.prog.info? 22).map (·.size) = some 1 := by kernel_rfl
theorem info_sl2 : (Tryz.prog.info? 23).map (·.size) = some 1 := by kernel_rfl
theorem info_sl3 : (Tryz.prog.info? 25).map (·.size) = some 1 := by kernel_rfl
theorem info_rtz15 : (Tryz.prog.info? 46).map (fun i => (i.zero, i.size, i.bytes)) = some (some (.agg #[.int .u32 0, .int .i64 0, .int .i64 0, .int .i64 0]), 4, 32) := by kernel_rfl
theorem info_ruz15 : (Tryz.prog.info? 54).map (fun i => (i.zero, i.size, i.bytes)) = some (some (.agg #[.int .i64 0, .int .i64 0, .int .i64 0, .int .u32 0, .int .u32 0, .int .i64 0, .int .i64 0, .int .i64 0, .int .i64 0, .int .i64 0]), 10, 72) := by kernel_rfl
set_option maxRecDepth 100000 in
set_option maxHeartbeats 4000000 in
theorem croute15 : ReaderS 52 routeP := by
  intro B gd c p gw l w hsz hd hw hB hn
  have hlt := hd.lt
  have hne : gd ≠ gw := by omega
  obtain ⟨q0, hq0⟩ : ∃ q, ctA (l) = q := ⟨_, rfl⟩
  obtain ⟨q1, hq1⟩ : ∃ q, ctB (l) = q := ⟨_, rfl⟩
  have hr0 : 0 ≤ q0.getD 0 ∧ q0.getD 0 ≤ 4294967295 := by
    cases hx : q0 with
    | none => decide
    | some v => rw [hx] at hq0; exact addrP_rng hq0
  obtain ⟨q2, hq2⟩ : ∃ q, numP (hdT (l.tail)) = q := ⟨_, rfl⟩
  obtain ⟨q3, hq3⟩ : ∃ q, numP (hdT (l.tail.tail)) = q := ⟨_, rfl⟩
  have k0 := fun w h => cnet15 (B := B) gw (l) (false) w h q0 q1 hq0 hq1
  have k1 := fun w h => cnumber15 (B := B) gw (l.tail) (((false) || !q0.isSome) || !q1.isSome) w h q2 hq2
  have k2 := fun w h => cnumber15 (B := B) gw (l.tail.tail) ((((false) || !q0.isSome) || !q1.isSome) || !q2.isSome) w h q3 hq3
  have hP : routeP c (l.map txB) = okB ((((((false) || !q0.isSome) || !q1.isSome) || !q2.isSome) || !q3.isSome) || !(l.tail.tail.tail).isEmpty) { c with routes := c.routes ++ [⟨q0.getD 0, q1.getD 0, q2.getD 0, q3.getD 0⟩] } := by
    rw [route_seq]
    simp only [map_tail, nQ, aQ, cA, cB, tQ, map_hd, map_emp, hq0, hq1, hq2, hq3]
  generalize q0.getD 0 = n0 at *
  generalize q0.isSome = b0 at *
  generalize q1.getD 0 = n1 at *
  generalize q1.isSome = b1 at *
  generalize q2.getD 0 = n2 at *
  generalize q2.isSome = b2 at *
  generalize q3.getD 0 = n3 at *
  generalize q3.isSome = b3 at *
  have K0 := Go.Lib.hid k0
  have tok0 : True := trivial
  have K1 := Go.Lib.hid k1
  have tok1 : True := trivial
  have K2 := Go.Lib.hid k2
  have tok2 : True := trivial
  have tos0 : True := trivial
  have tos1 : True := trivial
  have tos2 : True := trivial
  have tos3 : True := trivial
  have HP := Go.Lib.hid hP
  have hgw := (show gw < w.heap.size from by obtain ⟨A, k, h1, _, _⟩ := hw.is; exact h1.lt)
  have hnr := hd.norow (Nat.le_refl w.heap.size)
  have yz : Below w.heap.size w (w.alloc (.cells #[.int .u32 0, .int .i64 0, .int .i64 0, .int .i64 0] 46)) := (Below.refl _ _).alloc (Nat.le_refl _) _
  have D0 := Go.Lib.hid (hd.at yz)
  have W0 := Go.Lib.hid (hw.at yz)
  have HNR := Go.Lib.hid hn
  have HNZ := Go.Lib.hid hnr
  have H7 := Go.Lib.hid hd.out
  have X0 := Go.Lib.hid (Bxo.made w 46 [.int .u32 0, .int .i64 0, .int .i64 0, .int .i64 0])
  have hBz : B ≤ w.heap.size := hd.hs
  have G0 : Hid (Dg B gd w (w.alloc (.cells #[.int .u32 0, .int .i64 0, .int .i64 0, .int .i64 0] 46))) := Go.Lib.hid (Dg.ofBelow yz hBz)
  have HSZ := Go.Lib.hid hsz
  have HTB := Go.Lib.hid hw.tb
  clear k0 k1 k2 hP hd hw hn hnr hsz yz hq0 hq1 hq2 hq3
  go_enter Tryz.func52, Tryz.ntmps52
  go_upto_region 1 with fail
  generalize w.alloc (.cells #[.int .u32 0, .int .i64 0, .int .i64 0, .int .i64 0] 46) = w0 at *
  obtain ⟨gr, hgr⟩ : ∃ g, w.heap.size = g := ⟨_, rfl⟩
  rw [hgr] at hgw HNZ X0 hBz ⊢
  have hne2 : gd ≠ gr := by omega
  have hne3 : gr ≠ gw := by omega
  go_upto_region 4 with (first
    | (clear tok0; go_at_call 68; refine (K0.out w0 W0.out).mono ?_; rintro e wa0 ⟨rfl, ha, ga⟩; have W1 := Go.Lib.hid ha; have D1 := Go.Lib.hid (D0.out.gro ga hne HNR.out); have X1 := Go.Lib.hid (X0.out.gro ga hne3); have G1 : Hid (Dg B gd w wa0) := Go.Lib.hid (G0.out.trans (Dg.ofGro ga hB D0.out.hs W0.out.isc)); clear ha ga W0 X0; dsimp only)
    | (clear tos0; refine wpList_store_any rfl 24 _ _ rfl gr 0 46 _ [.int .u32 n0] _ rfl rfl rfl X1.out info_u1 (by show 0 + 1 ≤ 4; omega) (by intro u hu; rw [List.mem_singleton.1 hu]; rfl) ?_; intro wb0 hb ho; have X2 : Hid (Bxo wb0 gr 46 [.int .u32 n0, .int .i64 0, .int .i64 0, .int .i64 0]) := Go.Lib.hid hb; have D2 := Go.Lib.hid (D1.out.gro ho.gro hne2 HNZ.out); have W2 := Go.Lib.hid (W1.out.newer ho hgw); have G2 : Hid (Dg B gd w wb0) := Go.Lib.hid (G1.out.trans (Dg.ofGro ho.gro hBz D1.out.hs ⟨_, _, X1.out⟩)); clear hb ho X1 W1)
    | (clear tos1; refine wpList_store_any rfl 3 _ _ rfl gr 1 46 _ [.int .i64 n1] _ rfl rfl rfl X2.out info_i1 (by show 1 + 1 ≤ 4; omega) (by intro u hu; rw [List.mem_singleton.1 hu]; rfl) ?_; intro wb1 hb ho; have X3 : Hid (Bxo wb1 gr 46 [.int .u32 n0, .int .i64 n1, .int .i64 0, .int .i64 0]) := Go.Lib.hid hb; have D3 := Go.Lib.hid (D2.out.gro ho.gro hne2 HNZ.out); have W3 := Go.Lib.hid (W2.out.newer ho hgw); have G3 : Hid (Dg B gd w wb1) := Go.Lib.hid (G2.out.trans (Dg.ofGro ho.gro hBz D2.out.hs ⟨_, _, X2.out⟩)); clear hb ho X2 W2)
    | (clear tok1; go_at_call 69; refine (K1.out wb1 W3.out).mono ?_; rintro e wa1 ⟨rfl, ha, ga⟩; have W4 := Go.Lib.hid ha; have D4 := Go.Lib.hid (D3.out.gro ga hne HNR.out); have X4 := Go.Lib.hid (X3.out.gro ga hne3); have G4 : Hid (Dg B gd w wa1) := Go.Lib.hid (G3.out.trans (Dg.ofGro ga hB D3.out.hs W3.out.isc)); clear ha ga W3 X3; dsimp only)
    | (clear tos2; refine wpList_store_any rfl 3 _ _ rfl gr 2 46 _ [.int .i64 n2] _ rfl rfl rfl X4.out info_i1 (by show 2 + 1 ≤ 4; omega) (by intro u hu; rw [List.mem_singleton.1 hu]; rfl) ?_; intro wb2 hb ho; have X5 : Hid (Bxo wb2 gr 46 [.int .u32 n0, .int .i64 n1, .int .i64 n2, .int .i64 0]) := Go.Lib.hid hb; have D5 := Go.Lib.hid (D4.out.gro ho.gro hne2 HNZ.out); have W5 := Go.Lib.hid (W4.out.newer ho hgw); have G5 : Hid (Dg B gd w wb2) := Go.Lib.hid (G4.out.trans (Dg.ofGro ho.gro hBz D4.out.hs ⟨_, _, X4.out⟩)); clear hb ho X4 W4)
    | (clear tok2; go_at_call 69; refine (K2.out wb2 W5.out).mono ?_; rintro e wa2 ⟨rfl, ha, ga⟩; have W6 := Go.Lib.hid ha; have D6 := Go.Lib.hid (D5.out.gro ga hne HNR.out); have X6 := Go.Lib.hid (X5.out.gro ga hne3); have G6 : Hid (Dg B gd w wa2) := Go.Lib.hid (G5.out.trans (Dg.ofGro ga hB D5.out.hs W5.out.isc)); clear ha ga W5 X5; dsimp only)
    | (clear tos3; refine wpList_store_any rfl 3 _ _ rfl gr 3 46 _ [.int .i64 n3] _ rfl rfl rfl X6.out info_i1 (by show 3 + 1 ≤ 4; omega) (by intro u hu; rw [List.mem_singleton.1 hu]; rfl) ?_; intro wb3 hb ho; have X7 : Hid (Bxo wb3 gr 46 [.int .u32 n0, .int .i64 n1, .int .i64 n2, .int .i64 n3]) := Go.Lib.hid hb; have D7 := Go.Lib.hid (D6.out.gro ho.gro hne2 HNZ.out); have W7 := Go.Lib.hid (W6.out.newer ho hgw); have G7 : Hid (Dg B gd w wb3) := Go.Lib.hid (G6.out.trans (Dg.ofGro ho.gro hBz D6.out.hs ⟨_, _, X6.out⟩)); clear hb ho X6 W6))
  have c5W := D7.out.box.cell 0 rfl
  have XF : Hid (Bxo wb3 gr 46 (rtL (⟨n0, n1, n2, n3⟩ : Rt))) := Go.Lib.hid X7.out
  obtain ⟨i0_, hi_, hz0, hz1, hz2⟩ := info_parts info_rtz15
  have hb1 := HSZ.out.a
  try simp only [Act.put, List.setIfInBounds_toArray, List.set_cons_zero, List.set_cons_succ]
  refine wp_region_held_drew (S := fun _ => True) (by kernel_rfl) ?_ (fun hHeld => ?_)
  · trivial
  refine wpAnyH_take (i := 0) (oi := ⟨some 18, _, _, _, _, _⟩) (v := ?_) rfl (by kernel_rfl) (by kernel_rfl) (by kernel_rfl) (fun _ _ _ h => h) (Or.inl ⟨by rfl, ?_⟩) (by assumption) ?_
  rotate_left
  · intro w hSw; (try dsimp only at hSw); go_simp; (try with_reducible rfl)
  try simp only [Act.put, List.setIfInBounds_toArray, List.set_cons_zero, List.set_cons_succ]
  refine wpAnyH_take (i := 1) (oi := ⟨some 19, _, _, _, _, _⟩) (v := ?_) rfl (by kernel_rfl) (by kernel_rfl) (by kernel_rfl) (fun _ _ _ h => h) (Or.inl ⟨by rfl, ?_⟩) (by assumption) ?_
  rotate_left
  · intro w hSw; (try dsimp only at hSw); go_simp; (try with_reducible rfl)
  try simp only [Act.put, List.setIfInBounds_toArray, List.set_cons_zero, List.set_cons_succ]
  refine wpAnyH_take (i := 2) (oi := ⟨some 20, _, _, _, _, _⟩) (v := ?_) rfl (by kernel_rfl) (by kernel_rfl) (by kernel_rfl) (fun _ _ _ h => h) (Or.inl ⟨by rfl, ?_⟩) (by assumption) ?_
  rotate_left
  · intro w hSw; (try dsimp only at hSw); go_simp; (try with_reducible rfl)
  try simp only [Act.put, List.setIfInBounds_toArray, List.set_cons_zero, List.set_cons_succ]
  refine wpAnyH_take (i := 3) (oi := ⟨some 21, _, _, _, _, _⟩) (v := ?_) rfl (by kernel_rfl) (by kernel_rfl) (by kernel_rfl) (fun _ _ _ h => h) (Or.inl ⟨by rfl, ?_⟩) (by assumption) ?_
  rotate_left
  · intro w hSw; (try dsimp only at hSw); go_simp; (try with_reducible rfl)
  try simp only [Act.put, List.setIfInBounds_toArray, List.set_cons_zero, List.set_cons_succ]
  refine wpAnyH_take (i := 4) (oi := ⟨some 22, _, _, _, _, _⟩) (v := ?_) rfl (by kernel_rfl) (by kernel_rfl) (by kernel_rfl) (fun _ _ _ h => h) (Or.inl ⟨by rfl, ?_⟩) (by assumption) ?_
  rotate_left
  · intro w hSw; (try dsimp only at hSw); go_simp; (try with_reducible rfl)
  try simp only [Act.put, List.setIfInBounds_toArray, List.set_cons_zero, List.set_cons_succ]
  refine wpAnyH_ready (rs := [5, 6]) (by kernel_rfl) (by simp) (AllReadyH.cons (o := ⟨some 23, _, _, _, _, _⟩) rfl (fun Kc hKc => ?_) (AllReadyH.cons (o := ⟨some 24, _, _, _, _, _⟩) rfl (fun Kc hKc => ?_) AllReadyH.nil))
  ·
    go_simp
    refine hKc.out _ _ (trivial) (fun hHeld => ?_)
    clear hKc Kc
    try simp only [Act.put, List.setIfInBounds_toArray, List.set_cons_zero, List.set_cons_succ]
    refine wpAnyH_ready (rs := [6]) (by kernel_rfl) (by simp) (AllReadyH.cons (o := ⟨some 24, _, _, _, _, _⟩) rfl (fun Kc hKc => ?_) AllReadyH.nil)
    rw [if_pos (by rfl)]
    refine step_load_at 46 _ rfl ⟨gr, 0, none⟩ rfl (rtL (⟨n0, n1, n2, n3⟩ : Rt)) _ XF.out.drew.at Tryz.underlying46 rfl info_rt ?_
    refine hKc.out _ _ (trivial) (fun hHeld => ?_)
    clear hKc Kc
    try simp only [Act.put, List.setIfInBounds_toArray, List.set_cons_zero, List.set_cons_succ]
    refine wpAnyH_ready (rs := [7]) (by kernel_rfl) (by simp) (AllReadyH.cons (o := ⟨some 25, _, _, _, _, _⟩) rfl (fun Kc hKc => ?_) AllReadyH.nil)
    go_simp
    have yB : Below wb3.heap.size wb3 ((wb3.alloc (.cells #[.int .u32 n0, .int .i64 n1, .int .i64 n2, .int .i64 n3] 46)).drew) := below_drew ((Below.refl _ _).alloc (Nat.le_refl _) _); have HV := Go.Lib.hid (show Bxo ((wb3.alloc (.cells #[.int .u32 n0, .int .i64 n1, .int .i64 n2, .int .i64 n3] 46)).drew) wb3.heap.size 46 (rtL (⟨n0, n1, n2, n3⟩ : Rt)) from Bxo.made wb3 46 (rtL (⟨n0, n1, n2, n3⟩ : Rt))); have YB := Go.Lib.hid yB; generalize (wb3.alloc (.cells #[.int .u32 n0, .int .i64 n1, .int .i64 n2, .int .i64 n3] 46)).drew = wB at *; have DB := Go.Lib.hid (D7.out.at YB.out); have GB : Hid (Dg B gd w wB) := Go.Lib.hid (G7.out.trans (Dg.ofBelow YB.out D7.out.hs)); have c5B := DB.out.box.cell 0 rfl; have WB := Go.Lib.hid (W7.out.at YB.out); clear yB
    refine hKc.out _ _ (trivial) (fun hHeld => ?_)
    clear hKc Kc
    try simp only [Act.put, List.setIfInBounds_toArray, List.set_cons_zero, List.set_cons_succ]
    refine wpAnyH_ready (rs := [8]) (by kernel_rfl) (by simp) (AllReadyH.cons (o := ⟨some 26, _, _, _, _, _⟩) rfl (fun Kc hKc => ?_) AllReadyH.nil)
    rw [if_pos (by rfl)]
    refine step_append_rdK _ _ 22 rfl B 46 i0_ _ 4 32 Tryz.underlying22 hi_ hz0 hz1 hz2 rfl (by omega) (.slice p.A1 c.routes.length p.c1) c.routes.length (c.routes.flatMap Rt.L) rfl DB.out.r1 (some ⟨wb3.heap.size, 0, none⟩) 1 1 (rtL (⟨n0, n1, n2, n3⟩ : Rt)) rfl rfl (fun e => by cases e) (.inr ⟨_, rfl, HV.out.at⟩) (by simp [Value.oneCell']) (by unfold maxLen; omega) (by omega) DB.out.hs ?_; intro v8 w8 ho8 hg8 ha8; obtain ⟨A8, c8, rfl⟩ := own_slice ho8; simp only [ownBlock_blk] at hg8 ha8; obtain ⟨hb8, dg8, fin8⟩ := DB.out.app1 (x := (⟨n0, n1, n2, n3⟩ : Rt)) ⟨hr0⟩ ho8 hg8 ha8; have B8 := Go.Lib.hid hb8; have G8 := Go.Lib.hid (GB.out.trans dg8); have F8 := Go.Lib.hid fin8; have W8 : Hid (∃ A k, Bxo w8 gw 85 (wsL A (l.tail.tail.tail).length k (((((false) || !b0) || !b1) || !b2) || !b3))) := Go.Lib.hid (by obtain ⟨A, k, h1, _, _⟩ := WB.out.is; exact ⟨A, k, h1.grown hg8 HNR.out.a1⟩); clear ho8 hg8 ha8 hb8 dg8 fin8
    refine hKc.out _ _ (trivial) (fun hHeld => ?_)
    clear hKc Kc
    try simp only [Act.put, List.setIfInBounds_toArray, List.set_cons_zero, List.set_cons_succ]
    refine wpAnyH_take (i := 9) (oi := ⟨some 27, _, _, _, _, _⟩) (v := ?_) rfl (by kernel_rfl) (by kernel_rfl) (by kernel_rfl) (fun _ _ _ h => h) (Or.inl ⟨by rfl, ?_⟩) (by assumption) ?_
    rotate_left
    · intro w hSw; (try dsimp only at hSw); go_simp; (try with_reducible rfl)
    try simp only [Act.put, List.setIfInBounds_toArray, List.set_cons_zero, List.set_cons_succ]
    refine wpAnyH_take (i := 10) (oi := ⟨some 28, _, _, _, _, _⟩) (v := ?_) rfl (by kernel_rfl) (by kernel_rfl) (by kernel_rfl) (fun _ _ _ h => h) (Or.inl ⟨by rfl, ?_⟩) (by assumption) ?_
    rotate_left
    · intro w hSw; (try dsimp only at hSw); go_simp; (try with_reducible rfl)
    try simp only [Act.put, List.setIfInBounds_toArray, List.set_cons_zero, List.set_cons_succ]
    refine wpAnyH_take (i := 11) (oi := ⟨some 29, _, _, _, _, _⟩) (v := ?_) rfl (by kernel_rfl) (by kernel_rfl) (by kernel_rfl) (fun _ _ _ h => h) (Or.inl ⟨by rfl, ?_⟩) (by assumption) ?_
    rotate_left
    · intro w hSw; (try dsimp only at hSw); go_simp; (try with_reducible rfl)
    try simp only [Act.put, List.setIfInBounds_toArray, List.set_cons_zero, List.set_cons_succ]
    refine wpAnyH_ready (rs := [12]) (by kernel_rfl) (by simp) (AllReadyH.cons (o := ⟨none, _, _, _, _, _⟩) rfl (fun Kc hKc => ?_) AllReadyH.nil)
    rw [if_pos (by rfl)]
    refine step_store_any 22 _ _ rfl gd 0 66 _ [.slice A8 (c.routes.length + 1) c8] _ rfl rfl rfl B8.out info_sl1 (by show 0 + 1 ≤ 10; omega) (by intro u hu; rw [List.mem_singleton.1 hu]; rfl) ?_; intro w9 hb9 ho9; have HB9 := Go.Lib.hid hb9; have HO9 := Go.Lib.hid ho9; clear hb9 ho9
    refine hKc.out _ _ (trivial) (fun hHeld => ?_)
    clear hKc Kc
    try simp only [Act.put, List.setIfInBounds_toArray, List.set_cons_zero, List.set_cons_succ]
    refine wpAnyH_done (by kernel_rfl) ?_ _
    have e9 : Bxo w9 gd 66 (cfL { c with routes := c.routes ++ [(⟨n0, n1, n2, n3⟩ : Rt)] } { p with A1 := A8, c1 := c8 }) := by
      have := HB9.out
      have e : (c.routes ++ [(⟨n0, n1, n2, n3⟩ : Rt)]).length = c.routes.length + 1 := by simp
      rw [show cfL { c with routes := c.routes ++ [(⟨n0, n1, n2, n3⟩ : Rt)] } { p with A1 := A8, c1 := c8 } = spl (cfL c p) 0 [.slice A8 (c.routes ++ [(⟨n0, n1, n2, n3⟩ : Rt)]).length c8] from rfl, e]
      exact this
    have d9 := F8.out w9 HO9.out e9
    have g9 := G8.out.trans (Dg.ofOnly HO9.out ⟨_, _, B8.out⟩)
    obtain ⟨A, k, w8⟩ := W8.out
    have w9' := w8.only HO9.out (Ne.symm hne)
    go_end0
    exact ⟨rfl, ⟨_, _, A, _, k, _, d9, w9', HP.out⟩, g9, HTB.out.dg g9 H7.out hlt⟩
  ·
    rw [if_pos (by rfl)]
    refine step_load_at 46 _ rfl ⟨gr, 0, none⟩ rfl (rtL (⟨n0, n1, n2, n3⟩ : Rt)) _ XF.out.drew.at Tryz.underlying46 rfl info_rt ?_
    refine hKc.out _ _ (trivial) (fun hHeld => ?_)
    clear hKc Kc
    try simp only [Act.put, List.setIfInBounds_toArray, List.set_cons_zero, List.set_cons_succ]
    refine wpAnyH_ready (rs := [5, 7]) (by kernel_rfl) (by simp) (AllReadyH.cons (o := ⟨some 23, _, _, _, _, _⟩) rfl (fun Kc hKc => ?_) (AllReadyH.cons (o := ⟨some 25, _, _, _, _, _⟩) rfl (fun Kc hKc => ?_) AllReadyH.nil))
    ·
      go_simp
      refine hKc.out _ _ (trivial) (fun hHeld => ?_)
      clear hKc Kc
      try simp only [Act.put, List.setIfInBounds_toArray, List.set_cons_zero, List.set_cons_succ]
      refine wpAnyH_ready (rs := [7]) (by kernel_rfl) (by simp) (AllReadyH.cons (o := ⟨some 25, _, _, _, _, _⟩) rfl (fun Kc hKc => ?_) AllReadyH.nil)
      go_simp
      have yB : Below wb3.heap.size wb3 ((wb3.alloc (.cells #[.int .u32 n0, .int .i64 n1, .int .i64 n2, .int .i64 n3] 46)).drew) := below_drew ((Below.refl _ _).alloc (Nat.le_refl _) _); have HV := Go.Lib.hid (show Bxo ((wb3.alloc (.cells #[.int .u32 n0, .int .i64 n1, .int .i64 n2, .int .i64 n3] 46)).drew) wb3.heap.size 46 (rtL (⟨n0, n1, n2, n3⟩ : Rt)) from Bxo.made wb3 46 (rtL (⟨n0, n1, n2, n3⟩ : Rt))); have YB := Go.Lib.hid yB; generalize (wb3.alloc (.cells #[.int .u32 n0, .int .i64 n1, .int .i64 n2, .int .i64 n3] 46)).drew = wB at *; have DB := Go.Lib.hid (D7.out.at YB.out); have GB : Hid (Dg B gd w wB) := Go.Lib.hid (G7.out.trans (Dg.ofBelow YB.out D7.out.hs)); have c5B := DB.out.box.cell 0 rfl; have WB := Go.Lib.hid (W7.out.at YB.out); clear yB
      refine hKc.out _ _ (trivial) (fun hHeld => ?_)
      clear hKc Kc
      try simp only [Act.put, List.setIfInBounds_toArray, List.set_cons_zero, List.set_cons_succ]
      refine wpAnyH_ready (rs := [8]) (by kernel_rfl) (by simp) (AllReadyH.cons (o := ⟨some 26, _, _, _, _, _⟩) rfl (fun Kc hKc => ?_) AllReadyH.nil)
      rw [if_pos (by rfl)]
      refine step_append_rdK _ _ 22 rfl B 46 i0_ _ 4 32 Tryz.underlying22 hi_ hz0 hz1 hz2 rfl (by omega) (.slice p.A1 c.routes.length p.c1) c.routes.length (c.routes.flatMap Rt.L) rfl DB.out.r1 (some ⟨wb3.heap.size, 0, none⟩) 1 1 (rtL (⟨n0, n1, n2, n3⟩ : Rt)) rfl rfl (fun e => by cases e) (.inr ⟨_, rfl, HV.out.at⟩) (by simp [Value.oneCell']) (by unfold maxLen; omega) (by omega) DB.out.hs ?_; intro v8 w8 ho8 hg8 ha8; obtain ⟨A8, c8, rfl⟩ := own_slice ho8; simp only [ownBlock_blk] at hg8 ha8; obtain ⟨hb8, dg8, fin8⟩ := DB.out.app1 (x := (⟨n0, n1, n2, n3⟩ : Rt)) ⟨hr0⟩ ho8 hg8 ha8; have B8 := Go.Lib.hid hb8; have G8 := Go.Lib.hid (GB.out.trans dg8); have F8 := Go.Lib.hid fin8; have W8 : Hid (∃ A k, Bxo w8 gw 85 (wsL A (l.tail.tail.tail).length k (((((false) || !b0) || !b1) || !b2) || !b3))) := Go.Lib.hid (by obtain ⟨A, k, h1, _, _⟩ := WB.out.is; exact ⟨A, k, h1.grown hg8 HNR.out.a1⟩); clear ho8 hg8 ha8 hb8 dg8 fin8
      refine hKc.out _ _ (trivial) (fun hHeld => ?_)
      clear hKc Kc
      try simp only [Act.put, List.setIfInBounds_toArray, List.set_cons_zero, List.set_cons_succ]
      refine wpAnyH_take (i := 9) (oi := ⟨some 27, _, _, _, _, _⟩) (v := ?_) rfl (by kernel_rfl) (by kernel_rfl) (by kernel_rfl) (fun _ _ _ h => h) (Or.inl ⟨by rfl, ?_⟩) (by assumption) ?_
      rotate_left
      · intro w hSw; (try dsimp only at hSw); go_simp; (try with_reducible rfl)
      try simp only [Act.put, List.setIfInBounds_toArray, List.set_cons_zero, List.set_cons_succ]
      refine wpAnyH_take (i := 10) (oi := ⟨some 28, _, _, _, _, _⟩) (v := ?_) rfl (by kernel_rfl) (by kernel_rfl) (by kernel_rfl) (fun _ _ _ h => h) (Or.inl ⟨by rfl, ?_⟩) (by assumption) ?_
      rotate_left
      · intro w hSw; (try dsimp only at hSw); go_simp; (try with_reducible rfl)
      try simp only [Act.put, List.setIfInBounds_toArray, List.set_cons_zero, List.set_cons_succ]
      refine wpAnyH_take (i := 11) (oi := ⟨some 29, _, _, _, _, _⟩) (v := ?_) rfl (by kernel_rfl) (by kernel_rfl) (by kernel_rfl) (fun _ _ _ h => h) (Or.inl ⟨by rfl, ?_⟩) (by assumption) ?_
      rotate_left
      · intro w hSw; (try dsimp only at hSw); go_simp; (try with_reducible rfl)
      try simp only [Act.put, List.setIfInBounds_toArray, List.set_cons_zero, List.set_cons_succ]
      refine wpAnyH_ready (rs := [12]) (by kernel_rfl) (by simp) (AllReadyH.cons (o := ⟨none, _, _, _, _, _⟩) rfl (fun Kc hKc => ?_) AllReadyH.nil)
      rw [if_pos (by rfl)]
      refine step_store_any 22 _ _ rfl gd 0 66 _ [.slice A8 (c.routes.length + 1) c8] _ rfl rfl rfl B8.out info_sl1 (by show 0 + 1 ≤ 10; omega) (by intro u hu; rw [List.mem_singleton.1 hu]; rfl) ?_; intro w9 hb9 ho9; have HB9 := Go.Lib.hid hb9; have HO9 := Go.Lib.hid ho9; clear hb9 ho9
      refine hKc.out _ _ (trivial) (fun hHeld => ?_)
      clear hKc Kc
      try simp only [Act.put, List.setIfInBounds_toArray, List.set_cons_zero, List.set_cons_succ]
      refine wpAnyH_done (by kernel_rfl) ?_ _
      have e9 : Bxo w9 gd 66 (cfL { c with routes := c.routes ++ [(⟨n0, n1, n2, n3⟩ : Rt)] } { p with A1 := A8, c1 := c8 }) := by
        have := HB9.out
        have e : (c.routes ++ [(⟨n0, n1, n2, n3⟩ : Rt)]).length = c.routes.length + 1 := by simp
        rw [show cfL { c with routes := c.routes ++ [(⟨n0, n1, n2, n3⟩ : Rt)] } { p with A1 := A8, c1 := c8 } = spl (cfL c p) 0 [.slice A8 (c.routes ++ [(⟨n0, n1, n2, n3⟩ : Rt)]).length c8] from rfl, e]
        exact this
      have d9 := F8.out w9 HO9.out e9
      have g9 := G8.out.trans (Dg.ofOnly HO9.out ⟨_, _, B8.out⟩)
      obtain ⟨A, k, w8⟩ := W8.out
      have w9' := w8.only HO9.out (Ne.symm hne)
      go_end0
      exact ⟨rfl, ⟨_, _, A, _, k, _, d9, w9', HP.out⟩, g9, HTB.out.dg g9 H7.out hlt⟩
    ·
      go_simp
      have yB : Below wb3.heap.size wb3 ((wb3.alloc (.cells #[.int .u32 n0, .int .i64 n1, .int .i64 n2, .int .i64 n3] 46)).drew) := below_drew ((Below.refl _ _).alloc (Nat.le_refl _) _); have HV := Go.Lib.hid (show Bxo ((wb3.alloc (.cells #[.int .u32 n0, .int .i64 n1, .int .i64 n2, .int .i64 n3] 46)).drew) wb3.heap.size 46 (rtL (⟨n0, n1, n2, n3⟩ : Rt)) from Bxo.made wb3 46 (rtL (⟨n0, n1, n2, n3⟩ : Rt))); have YB := Go.Lib.hid yB; generalize (wb3.alloc (.cells #[.int .u32 n0, .int .i64 n1, .int .i64 n2, .int .i64 n3] 46)).drew = wB at *; have DB := Go.Lib.hid (D7.out.at YB.out); have GB : Hid (Dg B gd w wB) := Go.Lib.hid (G7.out.trans (Dg.ofBelow YB.out D7.out.hs)); have c5B := DB.out.box.cell 0 rfl; have WB := Go.Lib.hid (W7.out.at YB.out); clear yB
      refine hKc.out _ _ (trivial) (fun hHeld => ?_)
      clear hKc Kc
      try simp only [Act.put, List.setIfInBounds_toArray, List.set_cons_zero, List.set_cons_succ]
      refine wpAnyH_ready (rs := [5]) (by kernel_rfl) (by simp) (AllReadyH.cons (o := ⟨some 23, _, _, _, _, _⟩) rfl (fun Kc hKc => ?_) AllReadyH.nil)
      go_simp
      refine hKc.out _ _ (trivial) (fun hHeld => ?_)
      clear hKc Kc
      try simp only [Act.put, List.setIfInBounds_toArray, List.set_cons_zero, List.set_cons_succ]
      refine wpAnyH_ready (rs := [8]) (by kernel_rfl) (by simp) (AllReadyH.cons (o := ⟨some 26, _, _, _, _, _⟩) rfl (fun Kc hKc => ?_) AllReadyH.nil)
      rw [if_pos (by rfl)]
      refine step_append_rdK _ _ 22 rfl B 46 i0_ _ 4 32 Tryz.underlying22 hi_ hz0 hz1 hz2 rfl (by omega) (.slice p.A1 c.routes.length p.c1) c.routes.length (c.routes.flatMap Rt.L) rfl DB.out.r1 (some ⟨wb3.heap.size, 0, none⟩) 1 1 (rtL (⟨n0, n1, n2, n3⟩ : Rt)) rfl rfl (fun e => by cases e) (.inr ⟨_, rfl, HV.out.at⟩) (by simp [Value.oneCell']) (by unfold maxLen; omega) (by omega) DB.out.hs ?_; intro v8 w8 ho8 hg8 ha8; obtain ⟨A8, c8, rfl⟩ := own_slice ho8; simp only [ownBlock_blk] at hg8 ha8; obtain ⟨hb8, dg8, fin8⟩ := DB.out.app1 (x := (⟨n0, n1, n2, n3⟩ : Rt)) ⟨hr0⟩ ho8 hg8 ha8; have B8 := Go.Lib.hid hb8; have G8 := Go.Lib.hid (GB.out.trans dg8); have F8 := Go.Lib.hid fin8; have W8 : Hid (∃ A k, Bxo w8 gw 85 (wsL A (l.tail.tail.tail).length k (((((false) || !b0) || !b1) || !b2) || !b3))) := Go.Lib.hid (by obtain ⟨A, k, h1, _, _⟩ := WB.out.is; exact ⟨A, k, h1.grown hg8 HNR.out.a1⟩); clear ho8 hg8 ha8 hb8 dg8 fin8
      refine hKc.out _ _ (trivial) (fun hHeld => ?_)
      clear hKc Kc
      try simp only [Act.put, List.setIfInBounds_toArray, List.set_cons_zero, List.set_cons_succ]
      refine wpAnyH_take (i := 9) (oi := ⟨some 27, _, _, _, _, _⟩) (v := ?_) rfl (by kernel_rfl) (by kernel_rfl) (by kernel_rfl) (fun _ _ _ h => h) (Or.inl ⟨by rfl, ?_⟩) (by assumption) ?_
      rotate_left
      · intro w hSw; (try dsimp only at hSw); go_simp; (try with_reducible rfl)
      try simp only [Act.put, List.setIfInBounds_toArray, List.set_cons_zero, List.set_cons_succ]
      refine wpAnyH_take (i := 10) (oi := ⟨some 28, _, _, _, _, _⟩) (v := ?_) rfl (by kernel_rfl) (by kernel_rfl) (by kernel_rfl) (fun _ _ _ h => h) (Or.inl ⟨by rfl, ?_⟩) (by assumption) ?_
      rotate_left
      · intro w hSw; (try dsimp only at hSw); go_simp; (try with_reducible rfl)
      try simp only [Act.put, List.setIfInBounds_toArray, List.set_cons_zero, List.set_cons_succ]
      refine wpAnyH_take (i := 11) (oi := ⟨some 29, _, _, _, _, _⟩) (v := ?_) rfl (by kernel_rfl) (by kernel_rfl) (by kernel_rfl) (fun _ _ _ h => h) (Or.inl ⟨by rfl, ?_⟩) (by assumption) ?_
      rotate_left
      · intro w hSw; (try dsimp only at hSw); go_simp; (try with_reducible rfl)
      try simp only [Act.put, List.setIfInBounds_toArray, List.set_cons_zero, List.set_cons_succ]
      refine wpAnyH_ready (rs := [12]) (by kernel_rfl) (by simp) (AllReadyH.cons (o := ⟨none, _, _, _, _, _⟩) rfl (fun Kc hKc => ?_) AllReadyH.nil)
      rw [if_pos (by rfl)]
      refine step_store_any 22 _ _ rfl gd 0 66 _ [.slice A8 (c.routes.length + 1) c8] _ rfl rfl rfl B8.out info_sl1 (by show 0 + 1 ≤ 10; omega) (by intro u hu; rw [List.mem_singleton.1 hu]; rfl) ?_; intro w9 hb9 ho9; have HB9 := Go.Lib.hid hb9; have HO9 := Go.Lib.hid ho9; clear hb9 ho9
      refine hKc.out _ _ (trivial) (fun hHeld => ?_)
      clear hKc Kc
      try simp only [Act.put, List.setIfInBounds_toArray, List.set_cons_zero, List.set_cons_succ]
      refine wpAnyH_done (by kernel_rfl) ?_ _
      have e9 : Bxo w9 gd 66 (cfL { c with routes := c.routes ++ [(⟨n0, n1, n2, n3⟩ : Rt)] } { p with A1 := A8, c1 := c8 }) := by
        have := HB9.out
        have e : (c.routes ++ [(⟨n0, n1, n2, n3⟩ : Rt)]).length = c.routes.length + 1 := by simp
        rw [show cfL { c with routes := c.routes ++ [(⟨n0, n1, n2, n3⟩ : Rt)] } { p with A1 := A8, c1 := c8 } = spl (cfL c p) 0 [.slice A8 (c.routes ++ [(⟨n0, n1, n2, n3⟩ : Rt)]).length c8] from rfl, e]
        exact this
      have d9 := F8.out w9 HO9.out e9
      have g9 := G8.out.trans (Dg.ofOnly HO9.out ⟨_, _, B8.out⟩)
      obtain ⟨A, k, w8⟩ := W8.out
      have w9' := w8.only HO9.out (Ne.symm hne)
      go_end0
      exact ⟨rfl, ⟨_, _, A, _, k, _, d9, w9', HP.out⟩, g9, HTB.out.dg g9 H7.out hlt⟩
end Go.Proofs.YtoghcefamoefpaaGreatDoor
