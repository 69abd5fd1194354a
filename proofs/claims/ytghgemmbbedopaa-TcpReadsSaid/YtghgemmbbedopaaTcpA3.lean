/- Contract of package tcp's optsRight: are options right, but for how long they are? -/
import Derived.Test.YtghgemmbbedopaaTcpA2
namespace Go.Proofs.Ytghgemmbbedopaa
open Go.ChangeShapes Go.WideShapes Go.ChangeAt Go.RowKit
set_option linter.unusedVariables false

/-- is there one of this kind ahead of place i? -/
def seenB (os : List Op) (i : Nat) (j : Nat) : Bool := (os.take i).any fun o => o.kind == (j : Int)
theorem seen_zero (os : List Op) (j : Nat) : seenB os 0 j = false := by simp [seenB]
theorem seen_succ (os : List Op) (i j : Nat) (h : i < os.length) : seenB os (i + 1) j = (seenB os i j || os[i].kind == (j : Int)) := by
  unfold seenB
  rw [List.take_succ_eq_append_getElem h, List.any_append]
  simp
theorem twin_seen (os : List Op) (i : Nat) (k : Int) (h : 0 ≤ k) : twin os i k = (seenB os i k.toNat && five k) := by
  unfold twin seenB
  rw [show ((k.toNat : Nat) : Int) = k by omega]
  induction os.take i with
  | nil => simp
  | cons a r ih => simp only [List.any_cons, ih]; cases (a.kind == k) <;> cases (five k) <;> simp
/-- is the option at place i right, but for the length? -/
def fairAt (os : List Op) (i : Nat) : Bool :=
  match os[i]? with
  | none => false
  | some o => decide (2 ≤ o.kind) && (decide (o.kind ≤ 255) && (okLen o.kind o.data.length && !twin os i o.kind))
structure Fair (os : List Op) (i : Nat) (h : i < os.length) : Prop where
  k0 : 2 ≤ os[i].kind
  k1 : os[i].kind ≤ 255
  len : okLen os[i].kind os[i].data.length = true
  tw : twin os i os[i].kind = false
theorem fairAt_iff (os : List Op) (i : Nat) (h : i < os.length) : fairAt os i = true ↔ Fair os i h := by
  unfold fairAt
  rw [List.getElem?_eq_getElem h]
  simp only [Bool.and_eq_true, decide_eq_true_eq, Bool.not_eq_true']
  exact ⟨fun ⟨a, b, c, d⟩ => ⟨a, b, c, d⟩, fun h => ⟨h.k0, h.k1, h.len, h.tw⟩⟩
def fairB (os : List Op) : Bool := (List.range os.length).all (fairAt os)
theorem fairB_iff (os : List Op) : fairB os = true ↔ ∀ i, i < os.length → fairAt os i = true := by simp [fairB]
theorem not_fair {os : List Op} {k : Nat} (hk : k < os.length) (h : ¬ Fair os k hk) : fairB os = false := by
  have h1 : fairAt os k = false := by
    cases e : fairAt os k
    · rfl
    · exact absurd ((fairAt_iff os k hk).1 e) h
  cases e : fairB os
  · rfl
  · rw [(fairB_iff os).1 e k hk] at h1; cases h1
/-- fair, and of no great length: right. -/
theorem right_fair (os : List Op) : rightB os = (fairB os && decide (olen os ≤ 40)) := by
  rw [Bool.eq_iff_iff, Bool.and_eq_true, decide_eq_true_eq]
  constructor
  · intro h
    refine ⟨(fairB_iff os).2 fun i hi => ?_, right_olen os h⟩
    have g := (goodAt_iff os i hi).1 ((rightB_iff os).1 h i hi)
    exact (fairAt_iff os i hi).2 ⟨g.k0, g.k1, g.len, g.tw⟩
  · rintro ⟨h, h40⟩
    refine (rightB_iff os).2 fun i hi => ?_
    have g := (fairAt_iff os i hi).1 ((fairB_iff os).1 h i hi)
    have := olen_take_le os (i + 1)
    exact (goodAt_iff os i hi).2 ⟨g.k0, g.k1, g.len, g.tw, by omega⟩

/-- 256 cells in block g: the kinds that came. -/
structure SeenAt (w : World) (g : Nat) (os : List Op) (i : Nat) : Prop where
  lt : g < w.heap.size
  cell : ∀ j : Nat, j < 256 → w.cell? ⟨g, j, none⟩ = some (.bool (seenB os i j))
  fz : ∀ j : Nat, w.frozen? ⟨g, j, none⟩ = false

theorem info_seen : (Try.prog.info? 81).map (fun i => i.zero) = some (some (.agg (Array.replicate 256 (.bool false)))) := by kernel_rfl
theorem zero_seen : ∃ cs : Array Value, (∀ W : World, Sem.run Try.prog (zeroValue 81) W = .ok (.agg cs) W) ∧ ∀ j : Nat, j < 256 → cs[j]? = some (.bool false) := by
  refine ⟨Array.replicate 256 (.bool false), fun W => ?_, fun j hj => by simp [hj]⟩
  have h := info_seen
  cases e : Try.prog.info? 81 with
  | none => rw [e] at h; cases h
  | some i =>
    rw [e] at h
    simp only [Option.map_some, Option.some.injEq] at h
    unfold zeroValue
    simp [go_sem, typeInfo, e, h]

theorem SeenAt.keep {w w' : World} {g : Nat} {os : List Op} {i : Nat} (h : SeenAt w g os i) (hb : Below w.heap.size w w') : SeenAt w' g os i :=
  ⟨Nat.lt_of_lt_of_le h.lt hb.size, fun j hj => ((bcell hb).1 g j h.lt).trans (h.cell j hj), fun j => ((bcell hb).2 g j h.lt).trans (h.fz j)⟩
/-- one more. -/
theorem SeenAt.put {w : World} {g : Nat} {os : List Op} {i : Nat} {kd : Int} (h : SeenAt w g os i) (hi : i < os.length) (hk : os[i].kind = kd) (h0 : 0 ≤ kd) (h1 : kd ≤ 255) :
    SeenAt (w.setCell ⟨g, kd.toNat, none⟩ (.bool true)) g os (i + 1) := by
  have c0 := h.cell kd.toNat (by omega)
  refine ⟨by simpa using h.lt, fun j hj => ?_, fun j => by rw [World.frozen?_setCell]; exact h.fz j⟩
  rw [seen_succ os i j hi, hk]
  by_cases e : j = kd.toNat
  · subst e
    rw [show (kd == ((kd.toNat : Nat) : Int)) = true by rw [beq_iff_eq]; omega, Bool.or_true]
    exact World.cell?_setCell_same w _ _ c0
  · rw [show (kd == (j : Int)) = false by rw [beq_eq_false_iff_ne]; omega, Bool.or_false]
    rw [World.cell?_setCell_other w _ _ _ (fun h => by injection h with _ h; omega)]
    exact h.cell j hj

set_option maxRecDepth 100000 in
set_option maxHeartbeats 4000000 in
theorem toptsRight (A : Option Addr) (n c : Nat) (os : List Op) (B : Nat) (w : World) (b : Bool) (hs : fairB os = b) (hn : os.length = n) (h : Os w B A os) (hB : B ≤ w.heap.size) (hm : Osm os) :
    Calls Try.prog 40 #[.slice A n c] w fun e w' => e = .returned (.bool b) ∧ Below w.heap.size w w' := by
  subst hn
  have HS := Go.Lib.hid hs
  have hl := hm.len
  have HM := Go.Lib.hid hm
  clear hs hm
  obtain ⟨cs, hz, hcs⟩ := zero_seen
  go_enter Try.func40, Try.ntmps40
  go_wp2
  have S0 : SeenAt (w.alloc (.cells cs 81)) w.heap.size os 0 := ⟨by simp, fun j hj => by simp [go_sem, hcs j hj, seen_zero], fun j => by simp [go_sem]⟩
  have x0 : Below w.heap.size w (w.alloc (.cells cs 81)) := (Below.refl _ _).alloc (Nat.le_refl _) _
  generalize w.alloc (.cells cs 81) = W at *
  clear hz hcs
  go_loopw [8] (fun i wx => ∃ k : Nat, k ≤ os.length ∧ i = .int .i64 k ∧ Hid (∀ j, j < k → fairAt os j = true) ∧ SeenAt wx w.heap.size os k ∧ Below w.heap.size w wx) (fun i _ => os.length - (intOf i).toNat)
  case atStart => exact ⟨0, by omega, rfl, Go.Lib.hid (fun j hj => by omega), S0, x0⟩
  case round =>
    clear S0 x0
    obtain ⟨k, hk, rfl, hF, S, x1⟩ := hrel
    by_cases hlt : k < os.length
    · obtain ⟨ad, Ad, cd, rfl, hb, hc0, hc1, hbs, hdl, hcm, hnil⟩ := (h.below (x1.mono hB)).at_ hlt
      have i1 : (0 : Int) ≤ (k : Int) := by omega
      have i2 : (k : Int) < (os.length : Int) := by omega
      have j0 := HM.out.data _ (List.getElem_mem hlt)
      have hg := S.lt
      generalize hkd : os[k].kind = kd at *
      generalize hdd : os[k].data.length = d at *
      have HKD := Go.Lib.hid hkd
      have HDD := Go.Lib.hid hdd
      clear hbs hdl hcm hnil hkd hdd
      by_cases h2 : 2 ≤ kd ∧ kd ≤ 255
      · obtain ⟨h20, h21⟩ := h2
        obtain ⟨f, hf⟩ : ∃ f, okLen kd d = f := ⟨_, rfl⟩
        have HFT := Go.Lib.hid hf
        clear hf
        cases f
        · go_wp2_with (go_at_call 51; refine (tfits kd Ad d cd _ false HFT.out j0).mono ?_; rintro e w2 ⟨rfl, hb2⟩; dsimp only)
          go_ret
          refine ⟨ret_bool ?_, ?_⟩
          · rw [← HS.out, not_fair hlt (fun g => by have e := g.len; rw [HKD.out, HDD.out, HFT.out] at e; cases e)]
          · exact (x1.alloc x1.size _).trans (hb2.mono (by have := x1.size; simp; omega))
        · go_upto_region 5 with fail
          have p0 : (wr.alloc (.cells #[.int .i64 kd, .slice Ad d cd] 39)).cell? ⟨wr.heap.size, 0, none⟩ = some (.int .i64 kd) := by simp [go_sem]
          have p1 : (wr.alloc (.cells #[.int .i64 kd, .slice Ad d cd] 39)).cell? ⟨wr.heap.size, 1, none⟩ = some (.slice Ad d cd) := by simp [go_sem]
          have p2 : wr.heap.size < (wr.alloc (.cells #[.int .i64 kd, .slice Ad d cd] 39)).heap.size := by simp
          have S1 := S.keep ((Below.refl _ _).alloc (Nat.le_refl _) (.cells #[.int .i64 kd, .slice Ad d cd] 39))
          have x2 := x1.alloc x1.size (.cells #[.int .i64 kd, .slice Ad d cd] 39)
          clear S x1 hc0 hc1
          generalize wr.alloc (.cells #[.int .i64 kd, .slice Ad d cd] 39) = V at *
          have hgq : w.heap.size ≠ wr.heap.size := by omega
          generalize wr.heap.size = q at *
          go_wp2_with fail
          refine (tfits kd Ad d cd V true HFT.out j0).mono ?_
          rintro e w2 ⟨rfl, hb2⟩
          dsimp only
          have q0 := ((bcell hb2).1 q 0 p2).trans p0
          have q1 := ((bcell hb2).1 q 1 p2).trans p1
          have q2 := Nat.lt_of_lt_of_le p2 hb2.size
          have S2 := S1.keep hb2
          have x3 := x2.trans (hb2.mono x2.size)
          clear p0 p1 p2 S1 x2 hb2
          have hs := S2.cell kd.toNat (by omega)
          have hz := S2.fz kd.toNat
          have TS := Go.Lib.hid (twin_seen os k kd (by omega))
          have hg2 := S2.lt
          generalize seenB os k kd.toNat = sb at *
          have HSS := Go.Lib.hid S2
          clear S2
          have k1 : (0 : Int) ≤ kd := by omega
          have k2 : kd < 256 := by omega
          cases sb
          · go_wp2
            go_roundw
            case rel =>
              refine ⟨k + 1, by omega, by go_num, Go.Lib.hid (fun j hj => ?_), HSS.out.put hlt HKD.out (by omega) h21, x3.setCell (p := ⟨w.heap.size, kd.toNat, none⟩) (Nat.le_refl _) _⟩
              by_cases hjk : j < k
              · exact hF.out j hjk
              · obtain rfl : j = k := by omega
                exact (fairAt_iff os j hlt).2 ⟨by rw [HKD.out]; exact h20, by rw [HKD.out]; exact h21, by rw [HKD.out, HDD.out]; exact HFT.out, by rw [HKD.out, TS.out]; rfl⟩
            case measure => simp [intOf]; omega
          · obtain ⟨v, hv⟩ : ∃ v, five kd = v := ⟨_, rfl⟩
            have HV := Go.Lib.hid hv
            clear hv
            cases v
            · go_wp2_with (go_at_call 52; refine (tknown kd _ false HV.out).mono ?_; rintro e w4 ⟨rfl, rfl⟩; dsimp only)
              go_roundw
              case rel =>
                refine ⟨k + 1, by omega, by go_num, Go.Lib.hid (fun j hj => ?_), HSS.out.put hlt HKD.out (by omega) h21, x3.setCell (p := ⟨w.heap.size, kd.toNat, none⟩) (Nat.le_refl _) _⟩
                by_cases hjk : j < k
                · exact hF.out j hjk
                · obtain rfl : j = k := by omega
                  exact (fairAt_iff os j hlt).2 ⟨by rw [HKD.out]; exact h20, by rw [HKD.out]; exact h21, by rw [HKD.out, HDD.out]; exact HFT.out, by rw [HKD.out, TS.out]; rw [HV.out]; rfl⟩
              case measure => simp [intOf]; omega
            · go_wp2_with (go_at_call 52; refine (tknown kd _ true HV.out).mono ?_; rintro e w4 ⟨rfl, rfl⟩; dsimp only)
              go_ret
              exact ⟨ret_bool (by rw [← HS.out, not_fair hlt (fun g => by have e0 := g.tw; rw [HKD.out, TS.out, HV.out] at e0; cases e0)]), x3⟩
      · have h2' : kd < 2 ∨ (2 ≤ kd ∧ 255 < kd) := by omega
        clear h2
        rcases h2' with h2 | ⟨h2, h3⟩
        all_goals
          go_wp2
          go_ret
          exact ⟨ret_bool (by rw [← HS.out, not_fair hlt (fun g => by have e0 := g.k0; have e1 := g.k1; rw [HKD.out] at e0 e1; omega)]), x1.alloc x1.size _⟩
    · obtain rfl : k = os.length := by omega
      go_wp2
      go_ret
      exact ⟨ret_bool (by rw [← HS.out, (fairB_iff os).2 hF.out]), x1⟩
end Go.Proofs.Ytghgemmbbedopaa
