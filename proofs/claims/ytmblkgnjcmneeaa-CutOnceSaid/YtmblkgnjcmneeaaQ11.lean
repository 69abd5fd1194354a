/- Lemmas, several texts in one. -/
import Derived.Test.YtmblkgnjcmneeaaQ07
import Derived.Lib.Overlaps
import Derived.Lib.AppendZerosOnto
import Derived.Laws.Externs
/- The contract of slices.BinarySearchFunc at runs with the closure of putIn. -/
namespace Go.Proofs.Ytmblkgnjcmneeaa
open Go.ChangeShapes Go.WideShapes Go.ChangeAt Go.RowKit
set_option linter.unusedVariables false
set_option linter.unusedSimpArgs false

set_option maxRecDepth 100000 in
set_option maxHeartbeats 4000000 in
theorem cputIn1 (r : Rn) (Ad : Option Addr) (cd : Nat) (off : Int) (w : World) (h : -9223372036854775808 ≤ r.off - off ∧ r.off - off ≤ 9223372036854775807) :
    Calls Try.prog 59 #[rnV r Ad cd, .int .i64 off] w fun e w' => e = .returned (.int .i64 (r.off - off)) ∧ Below w.heap.size w w' := by
  have e1 := IntWalk.i64_in _ h
  go_enter Try.func59, Try.ntmps59
  go_wp2
  go_ret
  exact ⟨rfl, (Below.refl _ _).alloc (Nat.le_refl _) _⟩
/-- runs whose places rise. -/
def Rises (rs : List Rn) : Prop := ∀ i j (hi : i < rs.length) (hj : j < rs.length), i < j → rs[i].off < rs[j].off
/-- where a run of this place belongs. -/
def Place (rs : List Rn) (off : Int) (k : Nat) : Prop := k ≤ rs.length ∧ (∀ i (h : i < rs.length), i < k → rs[i].off < off) ∧ (∀ i (h : i < rs.length), k ≤ i → off ≤ rs[i].off)
theorem place_up {rs : List Rn} {off : Int} {k : Nat} (hR : Rises rs) (hk : k < rs.length) (h : rs[k].off < off) : ∀ i (h : i < rs.length), i < k + 1 → rs[i].off < off := fun i hi hik => by
  by_cases e : i = k
  · subst e; exact h
  · exact Int.lt_trans (hR i k hi hk (by omega)) h
theorem place_dn {rs : List Rn} {off : Int} {k : Nat} (hR : Rises rs) (hk : k < rs.length) (h : off ≤ rs[k].off) : ∀ i (h : i < rs.length), k ≤ i → off ≤ rs[i].off := fun i hi hik => by
  by_cases e : i = k
  · subst e; exact h
  · exact Int.le_trans h (Int.le_of_lt (hR k i hk hi (by omega)))
set_option maxRecDepth 100000 in
set_option maxHeartbeats 8000000 in
theorem csearch (rs : List Rn) (A : Option Addr) (c : Nat) (off : Int) (w : World) (V : Nat → Prop) (hr : Rs w V A rs) (lt : ∀ b, V b → b < w.heap.size) (hc : rs.length ≤ c) (hn : rs.length ≤ 16777216) (hR : Rises rs) (ho : ∀ r ∈ rs, 0 ≤ r.off ∧ r.off ≤ 65535) (o0 : 0 ≤ off) (o1 : off ≤ 65535) :
    Calls Try.prog 58 #[.slice A rs.length c, .int .i64 off, .func (.func 59) #[] #[]] w fun e w' => ∃ (k : Nat) (f : Bool), e = .returned (.tuple #[.int .i64 k, .bool f]) ∧ Place rs off k ∧ Below w.heap.size w w' := by
  have HR := Go.Lib.hid hr
  have HV := Go.Lib.hid lt
  have HS := Go.Lib.hid hR
  have HO := Go.Lib.hid ho
  clear hr lt hR ho
  go_enter Try.func58, Try.ntmps58
  go_wp2
  go_loopw [9, 10] (fun i j wr => ∃ (a b : Nat), a ≤ b ∧ b ≤ rs.length ∧ i = .int .i64 a ∧ j = .int .i64 b ∧ Hid ((∀ t (h : t < rs.length), t < a → rs[t].off < off) ∧ (∀ t (h : t < rs.length), b ≤ t → off ≤ rs[t].off)) ∧ Below w.heap.size w wr) (fun i j _ => (intOf j).toNat - (intOf i).toNat)
  case atStart => exact ⟨0, rs.length, by omega, by omega, rfl, rfl, Go.Lib.hid ⟨fun t _ h => by omega, fun t h h' => by omega⟩, Below.refl _ _⟩
  case round =>
    rename World => wo
    obtain ⟨a, b, hab, hb, rfl, rfl, HP, x1⟩ := hrel
    by_cases hlt : a < b
    · go_upto_region 5 with fail
      obtain ⟨h, hh⟩ : ∃ h : Nat, ((a : Int) + (b : Int)) / 2 = (h : Int) := ⟨(a + b) / 2, by omega⟩
      simp only [hh]
      have g1 : a ≤ h := by omega
      have g2 : h < b := by omega
      have hl : h < rs.length := by omega
      clear hh
      obtain ⟨ad, Ad, cd, rfl, hb2, r0, r1, rb⟩ := (HR.out.keep (KeepV.of x1 HV.out)).at_ hl
      have hO := HO.out _ (List.getElem_mem hl)
      have HU : Hid (∀ x, rs[h] = x → x.off < off → ∀ t (h' : t < rs.length), t < h + 1 → rs[t].off < off) := Go.Lib.hid (fun x e hx => place_up HS.out hl (by rw [e]; exact hx))
      have HD : Hid (∀ x, rs[h] = x → off ≤ x.off → ∀ t (h' : t < rs.length), h ≤ t → off ≤ rs[t].off) := Go.Lib.hid (fun x e hx => place_dn HS.out hl (by rw [e]; exact hx))
      have i1 : (0 : Int) ≤ (h : Int) := by omega
      have i2 : (h : Int) < (rs.length : Int) := by omega
      clear rb
      generalize hd : rs[h] = y at *
      have HU2 := Go.Lib.hid (HU.out y rfl)
      have HD2 := Go.Lib.hid (HD.out y rfl)
      clear HU HD hd
      obtain ⟨e1, e2⟩ := hO
      by_cases hlo : y.off < off
      · have t1 : y.off - off < 0 := by omega
        go_wp2_with (first
          | (go_at_call 59; refine (cputIn1 y Ad cd off _ (by omega)).mono ?_; rintro e w' ⟨rfl, hcall⟩; dsimp only))
        go_round
        case rel => exact ⟨h + 1, b, by omega, by omega, by go_num, rfl, Go.Lib.hid ⟨HU2.out hlo, HP.out.2⟩, x1.trans (hcall.mono x1.size)⟩
        case measure => simp [intOf]; omega
      · have t1 : ¬ y.off - off < 0 := by omega
        go_wp2_with (first
          | (go_at_call 59; refine (cputIn1 y Ad cd off _ (by omega)).mono ?_; rintro e w' ⟨rfl, hcall⟩; dsimp only))
        go_round
        case rel => exact ⟨a, h, by omega, by omega, rfl, rfl, Go.Lib.hid ⟨HP.out.1, HD2.out (by omega)⟩, x1.trans (hcall.mono x1.size)⟩
        case measure => simp [intOf]; omega
    · obtain rfl : a = b := by omega
      have HPL : Hid (Place rs off a) := Go.Lib.hid ⟨hb, HP.out.1, HP.out.2⟩
      clear HP
      by_cases hlast : a < rs.length
      · obtain ⟨ad, Ad, cd, rfl, hb2, r0, r1, rb⟩ := (HR.out.keep (KeepV.of x1 HV.out)).at_ hlast
        have hO := HO.out _ (List.getElem_mem hlast)
        have i1 : (0 : Int) ≤ (a : Int) := by omega
        have i2 : (a : Int) < (rs.length : Int) := by omega
        clear rb
        generalize hd : rs[a] = y at *
        clear hd
        obtain ⟨e1, e2⟩ := hO
        go_wp2_with (first
          | (go_at_call 59; refine (cputIn1 y Ad cd off _ (by omega)).mono ?_; rintro e w' ⟨rfl, hcall⟩; dsimp only))
        go_ret2
        exact ⟨a, _, rfl, HPL.out, x1.trans (hcall.mono x1.size)⟩
      · have t2 : ¬ (a : Int) < (rs.length : Int) := by omega
        go_wp2
        go_ret2
        exact ⟨a, .inl rfl, HPL.out, x1⟩
end Go.Proofs.Ytmblkgnjcmneeaa

/- The contract of slices.Insert at runs, one run put in: at the end, in a new row, or in place. -/
namespace Go.Proofs.Ytmblkgnjcmneeaa
open Go.ChangeShapes Go.WideShapes Go.ChangeAt Go.RowKit
set_option linter.unusedVariables false
set_option linter.unusedSimpArgs false

section
variable {P : Program}
/-- copy into a row of the call's own, elements of several cells. -/
theorem run_copy_row {w : World} (dT sT ty e : TypeId) (k : Nat) (hu : P.underlying dT = some (.slice e)) (hs : (P.info? e).map (·.size) = some k)
    (g o dLen dCap : Nat) (cur : List Value) (hg : Bxo w g e cur) (a : Addr) (sLen sCap : Nat) (cs : List Value) (hn : cs.length = Nat.min sLen dLen * k) (hsrc : ∀ j v, cs[j]? = some v → w.cell? (a.add j) = some v) (h1 : ∀ v ∈ cs, v.oneCell' = true) (hfit : o + cs.length ≤ cur.length) :
    ∃ w' v', (Builtin.copy_ #[dT, sT] ty #[.slice (some ⟨g, o, none⟩) dLen dCap, .slice (some a) sLen sCap]).run P w = .ok v' w' ∧ Bxo w' g e (spl cur o cs) ∧ Only g w w' := by
  have hl := run_loadCells_list (P := P) w a cs hsrc
  have hst := run_storeCells_cells (P := P) g o cs 0 w (fun j hj => by
    simp only [Nat.add_zero]
    rw [hg.cell (o + j) (List.getElem?_eq_getElem (by omega))]; rfl) (fun j hj => hg.frozen _) h1
  simp only [Nat.add_zero] at hst
  obtain ⟨h2, h3⟩ := Bxo.setCells cs o cur w hg
  cases hq : P.info? e with
  | none => simp [hq] at hs
  | some i =>
    have hi : i.size = k := by simpa [hq] using hs
    rw [hn] at hl
    refine ⟨_, goInt (Nat.min sLen dLen), ?_, h2, h3⟩
    simp [Builtin.copy_, run_underlying hu, Builtin.lenOf, Builtin.firstCells, sizeOf, typeInfo, hq, hi, hl, hst]
theorem step_copy_row {op : Oper} {a : Act} {w : World} {K : Act → World → Prop} {Q : Exit → Act → World → Prop} (d s : Operand) (dT sT : TypeId) (ho : op.op = .call { callee := .builtin .copy, args := #[d, s], argTypes := #[dT, sT] })
    (e : TypeId) (k : Nat) (hu : P.underlying dT = some (.slice e)) (hs : (P.info? e).map (·.size) = some k)
    (g o dLen dCap : Nat) (cur : List Value) (hd : a.eval d = .slice (some ⟨g, o, none⟩) dLen dCap) (hg : Bxo w g e cur) (ad : Addr) (sLen sCap : Nat) (cs : List Value) (hx : a.eval s = .slice (some ad) sLen sCap) (hn : cs.length = Nat.min sLen dLen * k) (hsrc : ∀ j v, cs[j]? = some v → w.cell? (ad.add j) = some v) (h1 : ∀ v ∈ cs, v.oneCell' = true) (hfit : o + cs.length ≤ cur.length)
    (h : ∀ w', Bxo w' g e (spl cur o cs) → Only g w w' → ∀ v', K (a.put op.dst v') w') : op.wp P a w K Q := by
  obtain ⟨w', v', hrun, h2, h3⟩ := run_copy_row (P := P) (w := w) dT sT op.type e k hu hs g o dLen dCap cur hg ad sLen sCap cs hn hsrc h1 hfit
  unfold Oper.wp execOp
  simp only [ho, resolve, invoke, builtin, Sem.run_bind, Sem.run_pure, Result.andThen_ok, List.map_toArray, List.map_cons, List.map_nil, hd, hx, hrun]
  exact h w' h2 h3 v'
theorem wpList_copy_row {ops : Array Oper} {rest : List Oper} {op : Oper} {a : Act} {w : World} {Q : Exit → Act → World → Prop} (hgd : Region.wanted op (yielded ops a.tmps) = true) (d s : Operand) (dT sT : TypeId) (ho : op.op = .call { callee := .builtin .copy, args := #[d, s], argTypes := #[dT, sT] })
    (e : TypeId) (k : Nat) (hu : P.underlying dT = some (.slice e)) (hs : (P.info? e).map (·.size) = some k)
    (g o dLen dCap : Nat) (cur : List Value) (hd : a.eval d = .slice (some ⟨g, o, none⟩) dLen dCap) (hg : Bxo w g e cur) (ad : Addr) (sLen sCap : Nat) (cs : List Value) (hx : a.eval s = .slice (some ad) sLen sCap) (hn : cs.length = Nat.min sLen dLen * k) (hsrc : ∀ j v, cs[j]? = some v → w.cell? (ad.add j) = some v) (h1 : ∀ v ∈ cs, v.oneCell' = true) (hfit : o + cs.length ≤ cur.length)
    (h : ∀ w', Bxo w' g e (spl cur o cs) → Only g w w' → ∀ v', wpList P ops Q rest (a.put op.dst v') w') : wpList P ops Q (op :: rest) a w :=
  BigFrame.wpList_want hgd fun _ hK => step_copy_row d s dT sT ho e k hu hs g o dLen dCap cur hd hg ad sLen sCap cs hx hn hsrc h1 hfit (fun w' h2 h3 v' => hK _ _ (h w' h2 h3 v'))
/-- append of so many zero elements to a slice without room: a new row. -/
theorem wpList_append_zeros {ops : Array Oper} {rest : List Oper} {op : Oper} {a : Act} {w : World} {Q : Exit → Act → World → Prop} (hgd : Region.wanted op (yielded ops a.tmps) = true) (s x : Operand) (t tn : TypeId) (ho : op.op = .call { callee := .builtin .append, args := #[s, x], argTypes := #[t, tn] })
    (e : TypeId) (i : TypeInfo) (z : Value) (kn : IntKind) (ht : P.underlying t = some (.slice e)) (htn : P.underlying tn = some (.int kn)) (hi : P.info? e = some i) (hz : i.zero = some z) (hzs : z.cells.size = i.size) (h0s : 0 < i.size)
    (base : Option Addr) (sLen sCap : Nat) (olds : List Value) (hs : a.eval s = .slice base sLen sCap) (hold : (Builtin.firstCells i.size sLen (.slice base sLen sCap)).run P w.drew = .ok olds.toArray w.drew) (hol : olds.length = sLen * i.size)
    (k : Nat) (kq : IntKind) (hx : a.eval x = .int kq (k : Int)) (h0 : 0 < k) (hg : sCap < sLen + k) (hb : (sLen + k) * i.bytes ≤ 140737488355328) (h63 : sLen + k ≤ maxLen)
    (h : ∀ w' c' rest', sLen + k ≤ c' → c' ≤ maxLen → (olds ++ rest').length = c' * i.size → Bxo w' w.heap.size e (olds ++ rest') → Below w.heap.size w w' → w'.heap.size = w.heap.size + 1 → wpList P ops Q rest (a.put op.dst (.slice (some ⟨w.heap.size, 0, none⟩) (sLen + k) c')) w') : wpList P ops Q (op :: rest) a w :=
  BigFrame.wpList_want hgd fun _ hK => by
    unfold maxLen at h63
    have hrun := Lib.run_append_grow_zeros (P := P) w t tn op.type e i z kq kn ht htn hi hz base sLen sCap olds hold k h0 h0s hg (by omega) (Nat.le_trans (Nat.mul_le_mul_right _ (by omega)) (Nat.le_trans hb (by omega))) (growslice_fits hg hb)
    unfold Oper.wp execOp
    simp only [ho, resolve, invoke, builtin, Sem.run_bind, Sem.run_pure, Result.andThen_ok, List.map_toArray, List.map_cons, List.map_nil, hs, hx, hrun]
    have hc1 := grownCap_ge w (sLen + k) sCap e
    have hc2 := grownCap_le_maxLen w (sLen + k) sCap e (by unfold maxLen; omega)
    refine hK _ _ (h _ _ ((Builtin.zeroCells z.cells k).toList ++ (Builtin.zeroCells z.cells (grownCap w (sLen + k) sCap e - (sLen + k))).toList) hc1 hc2 ?_ ?_ ((Below.refl _ _).drew.alloc (Nat.le_refl _) _) (by simp))
    · have z1 : ∀ m, (Builtin.zeroCells z.cells m).toList.length = m * i.size := fun m => by simp [Builtin.zeroCells, hzs]
      rw [List.length_append, List.length_append, z1, z1, hol, ← Nat.add_mul, ← Nat.add_mul]
      congr 1
      omega
    · have := heap_alloc_new w.drew (.cells (olds.toArray ++ Builtin.zeroCells z.cells k ++ Builtin.zeroCells z.cells (grownCap w (sLen + k) sCap e - (sLen + k))) e)
      unfold Bxo
      rw [show (olds ++ ((Builtin.zeroCells z.cells k).toList ++ (Builtin.zeroCells z.cells (grownCap w (sLen + k) sCap e - (sLen + k))).toList)).toArray = olds.toArray ++ Builtin.zeroCells z.cells k ++ Builtin.zeroCells z.cells (grownCap w (sLen + k) sCap e - (sLen + k)) by
        apply Array.toList_inj.1; simp]
      exact this
end
end Go.Proofs.Ytmblkgnjcmneeaa
