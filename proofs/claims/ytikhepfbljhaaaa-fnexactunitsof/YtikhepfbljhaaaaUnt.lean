/- The units of a function, what is told out or stored: the program's side and the model's. -/
import Derived.Test.YtikhepfbljhaaaaIns
import Derived.Test.YtikhepfbljhaaaaFmI
import Derived.Test.YtikhepfbljhaaaaFmK
import Derived.Test.YtikhepfbljhaaaaRow
namespace Go.Proofs.Ytikhepfbljhaaaa
open Go.RowKit
set_option linter.unusedVariables false

theorem placeL_at : ∀ (l : List BlockD) (b k j : Nat), k < l.length → j < cntB (l.getD k block0) → placeL l b ((cntL (l.take k) + j : Nat) : Int) = (((b + k : Nat) : Int), (j : Int))
  | [], b, k, j, hk, _ => by simp at hk
  | x :: r, b, 0, j, hk, hj => by
    have hj' : j < cntB x := hj
    have e : cntL ((x :: r).take 0) = 0 := rfl
    rw [e, placeL, if_pos (by omega)]
    simp
  | x :: r, b, k + 1, j, hk, hj => by
    have hk' : k < r.length := by simpa using hk
    have hj' : j < cntB (r.getD k block0) := by simpa using hj
    have e : cntL ((x :: r).take (k + 1)) = cntB x + cntL (r.take k) := rfl
    rw [e, placeL, if_neg (by omega)]
    have e2 : ((cntB x + cntL (r.take k) + j : Nat) : Int) - cntB x = ((cntL (r.take k) + j : Nat) : Int) := by omega
    rw [e2, placeL_at r (b + 1) k j hk' hj']
    congr 2
    omega
theorem place_at {d : FuncD} {k j : Nat} (hk : k < d.blocks.length) (hj : j < cntB (d.blocks.getD k block0)) : placeF d ((d.params.length + cntL (d.blocks.take k) + j : Nat) : Int) = ((k : Int), (j : Int)) := by
  unfold placeF
  rw [if_neg (by omega), if_neg (by omega)]
  have e : ((d.params.length + cntL (d.blocks.take k) + j : Nat) : Int) - d.params.length = ((cntL (d.blocks.take k) + j : Nat) : Int) := by omega
  rw [e, placeL_at d.blocks 0 k j hk hj, Nat.zero_add]
theorem inst_par {d : FuncD} {i : Nat} (h : i < d.params.length) : instF d i = none := by
  have e : placeF d i = (-1, (i : Int)) := by unfold placeF; rw [if_neg (by omega), if_pos (by omega)]
  unfold instF
  rw [e, if_pos (by show (-1 : Int) < 0; omega)]
theorem inst_phi {d : FuncD} {k j : Nat} (hk : k < d.blocks.length) (hj : j < (d.blocks.getD k block0).phis.length) : instF d ((d.params.length + cntL (d.blocks.take k) + j : Nat) : Int) = none := by
  have e := place_at hk (show j < cntB _ by unfold cntB; omega)
  unfold instF
  rw [e, if_neg (by show ¬ ((k : Int) < 0); omega), if_pos (by show (j : Int) < _; simp; exact hj)]
theorem inst_inst {d : FuncD} {k j : Nat} (hk : k < d.blocks.length) (hj : j < (d.blocks.getD k block0).insts.length) : instF d ((d.params.length + cntL (d.blocks.take k) + (d.blocks.getD k block0).phis.length + j : Nat) : Int) = some ((d.blocks.getD k block0).insts.getD j inst0) := by
  have e := place_at hk (show (d.blocks.getD k block0).phis.length + j < cntB _ by unfold cntB; omega)
  rw [Nat.add_assoc] at *
  unfold instF
  have a4 : ((((d.blocks.getD k block0).phis.length + j : Nat) : Int) - (d.blocks.getD k block0).phis.length).toNat = j := by omega
  have a3 : ¬ ((((d.blocks.getD k block0).phis.length + j : Nat) : Int) < (d.blocks.getD k block0).phis.length) := by omega
  have a1 : ¬ ((k : Int) < 0) := by omega
  rw [Nat.add_assoc] at *
  simp only [e, if_neg a1, Int.toNat_natCast, if_neg a3, a4]
def unitY (y : InstD) : Bool := y.op == 24 || y.op == 25
def unitO : Option InstD → Bool
  | none => false
  | some y => unitY y
/-- The units among the first ids. -/
def unitN (d : FuncD) (k : Nat) : List Int := ((List.range k).filter fun i => unitO (instF d (i : Nat))).map fun i : Nat => (i : Int)
def unitsD (d : FuncD) : List Int := if funcB 3 d = true then unitN d (cntF d) else []
def UnitR (d : FuncD) (r : List Int) : Prop := r = unitsD d
theorem unitN_len (d : FuncD) (k : Nat) : (unitN d k).length ≤ k := by
  unfold unitN
  rw [List.length_map]
  have h := List.length_filter_le (fun i => unitO (instF d (i : Nat))) (List.range k)
  simpa using h
theorem unit_yes {d : FuncD} {k : Nat} (h : unitO (instF d (k : Nat)) = true) : unitN d (k + 1) = unitN d k ++ [(k : Int)] := by
  unfold unitN
  rw [List.range_succ, List.filter_append, List.map_append]
  simp [h]
theorem unit_no {d : FuncD} {k : Nat} (h : unitO (instF d (k : Nat)) = false) : unitN d (k + 1) = unitN d k := by
  unfold unitN
  rw [List.range_succ, List.filter_append, List.map_append]
  simp [h]
theorem unit_skip (d : FuncD) (k : Nat) : ∀ n, (∀ j, j < n → unitO (instF d ((k + j : Nat) : Int)) = false) → unitN d (k + n) = unitN d k
  | 0, _ => rfl
  | n + 1, h => by
    rw [← Nat.add_assoc, unit_no (h n (by omega))]
    exact unit_skip d k n fun j hj => h j (by omega)
theorem cntF_small {d : FuncD} (h : funcB 3 d = true) : cntF d ≤ 60 := by
  simp [funcB] at h
  omega
theorem UnitR_some (d : FuncD) : ∃ r, UnitR d r ∧ r.length ≤ 1048576 := by
  refine ⟨unitsD d, rfl, ?_⟩
  unfold unitsD
  by_cases h : funcB 3 d = true
  · rw [if_pos h]; have := unitN_len d (cntF d); have := cntF_small h; omega
  · rw [if_neg h]; simp
theorem FBox.grown {d : FuncD} {u0 u2 : Option Addr} {c0 c2 : Nat} {w w1 w2 : World} {row : Option Nat} (h : FBox d u0 c0 u2 c2 w w1) (hg : w1.grownBy w2 row) (hr : ∀ k, row = some k → w.heap.size + 1 ≤ k) : FBox d u0 c0 u2 c2 w w2 := by
  have hz := h.size
  have hb : w2.heap[w.heap.size]? = w1.heap[w.heap.size]? := hg.block _ (by omega) fun e => by have := hr _ e.symm; omega
  exact ⟨(cell_block hb).trans h.a0, (cell_block hb).trans h.a1, (cell_block hb).trans h.a2, h.below.grown hg (by omega) (fun k hk => by have := hr k hk; omega), Nat.le_trans hz hg.size⟩
set_option maxHeartbeats 1000000 in
theorem formI (lo : Nat) (d : FuncD) (u0 : Option Addr) (c0 : Nat) (u2 : Option Addr) (c2 : Nat) (w : World) (hs : SmFunc d) (k0 : IntsAt w lo u0 d.params) (k2 : BlocksAt w lo u2 d.blocks) :
    Calls Try.prog 19 #[.agg #[.slice u0 d.params.length c0, .int .i64 d.ret, .slice u2 d.blocks.length c2]] w fun e w' => e = .returned (.bool (funcB 3 d)) ∧ Below w.heap.size w w' := by
  go_enter Try.func19, Try.ntmps19
  go_wp2_with fail
  refine (funcShI lo d _ _ _ _ 3 _ hs (k0.keep (agree_alloc _ _ _)) (k2.keep (agree_alloc _ _ _))).mono ?_
  rintro e w1 ⟨rfl, hb1⟩
  have hW := below_box (box_first hb1)
  go_wp2_with fail
  go_ret
  exact ⟨rfl, hW⟩
set_option maxHeartbeats 4000000 in
theorem unitsI (lo : Nat) (d : FuncD) (u0 : Option Addr) (c0 : Nat) (u2 : Option Addr) (c2 : Nat) (r : List Int) (w : World) (hs : SmFunc d) (k0 : IntsAt w lo u0 d.params) (k2 : BlocksAt w lo u2 d.blocks) (hr : UnitR d r) :
    Calls Try.prog 7 #[.agg #[.slice u0 d.params.length c0, .int .i64 d.ret, .slice u2 d.blocks.length c2]] w fun e w' => ∃ v, e = .returned v ∧ w'.ownsRow w.heap.size 2 1 v r.length (r.map (Value.int .i64)) ∧ Below w.heap.size w w' := by
  have F0 : Hid (FBox d u0 c0 u2 c2 w (w.alloc (.cells #[.slice u0 d.params.length c0, .int .i64 d.ret, .slice u2 d.blocks.length c2] 30))) := FBox.start
  have HR : Hid (r = unitsD d) := hr
  have HK : Hid (BlocksAt w lo u2 d.blocks) := k2
  have HS : Hid (SmFunc d) := hs
  have K0 := k0.keep (agree_alloc w (.cells #[.slice u0 d.params.length c0, .int .i64 d.ret, .slice u2 d.blocks.length c2] 30) _)
  clear hr
  go_enter Try.func7, Try.ntmps7
  go_wp2_with fail
  refine (formI lo d _ _ _ _ _ hs K0 (k2.keep (agree_alloc _ _ _))).mono ?_
  rintro e w1 ⟨rfl, hb1⟩
  have F1 : Hid (FBox d u0 c0 u2 c2 w w1) := F0.out.keep hb1
  clear hb1 F0 K0 k2
  cases hf : funcB 3 d with
  | false =>
    have HE : Hid (unitsD d = []) := by show _ = _; unfold unitsD; rw [hf]; rfl
    clear hf
    go_wp2_with fail
    go_ret
    exact ⟨_, rfl, by rw [HR.out, HE.out]; exact World.ownsRow_nil _ _ _ _, F1.out.below⟩
  | true =>
    have HE : Hid (unitsD d = unitN d (cntF d)) := by show _ = _; unfold unitsD; rw [hf]; rfl
    have hc60 := cntF_small hf
    clear hf
    obtain ⟨b0, b1, b2, _, _⟩ := F1.out
    go_wp2_with fail
    refine (countI_any lo d _ _ _ _ _ hs (HK.out.keep (agree_of_below F1.out.below lo))).mono ?_
    rintro e w2 ⟨rfl, hb2⟩
    have F2 : Hid (FBox d u0 c0 u2 c2 w w2) := F1.out.keep hb2
    clear hb2 b0 b1 b2 F1
    go_wp2_with fail
    go_loopw [3, 12] (fun st i wr => ∃ k : Nat, k ≤ cntF d ∧ i = .int .i64 k ∧ Hid (Row wr (w.heap.size + 1) st (unitN d k)) ∧ Hid (FBox d u0 c0 u2 c2 w wr)) (fun _ i _ => cntF d - (intOf i).toNat)
    case atStart => exact ⟨0, by omega, rfl, Row.nil _ _, F2.out⟩
    case round =>
      obtain ⟨k, hk, rfl, HO, F3⟩ := hrel
      obtain ⟨ta, tc, rfl⟩ := HO.out.slice
      obtain ⟨b0, b1, b2, _, _⟩ := F3.out
      have hul := unitN_len d k
      by_cases hlt : k < cntF d
      · go_wp2_with fail
        refine (instI_at lo d _ _ _ _ (k : Int) _ HS.out (HK.out.keep (agree_of_below F3.out.below lo)) (by omega)).mono ?_
        rintro e w4 ⟨ht, hb4⟩
        have F4 : Hid (FBox d u0 c0 u2 c2 w w4) := F3.out.keep hb4
        have HO4 : Hid (Row w4 (w.heap.size + 1) (.slice ta (unitN d k).length tc) (unitN d k)) := HO.out.keep hb4
        have hz4 := F4.out.size
        clear hb4 F3 HO b0 b1 b2
        cases hi : instF d (k : Int) with
        | none =>
          rw [hi] at ht
          have HT : Hid (unitN d (k + 1) = unitN d k) := unit_no (by rw [hi]; rfl)
          subst ht
          clear hi
          go_wp2_with fail
          go_roundw
          case rel => exact ⟨k + 1, by omega, by go_num, by rw [HT.out]; exact HO4.out.alloc _, F4.out.alloc _⟩
          case measure => simp [intOf]; omega
        | some y =>
          rw [hi] at ht
          obtain ⟨ua, qa, rfl, hia⟩ := ht
          clear hia
          by_cases h24 : y.op = 24
          · have HT : Hid (unitN d (k + 1) = unitN d k ++ [(k : Int)]) := unit_yes (by rw [hi]; simp [unitO, unitY, h24])
            clear hi
            go_wp2_with (at_builtin; refine push_int rfl _ _ rfl (w.heap.size + 1) (.slice ta (unitN d k).length tc) (unitN d k) rfl ((HO4.out.alloc _).alloc _) (k : Int) _ 1 rfl (by exact one_cell_at (by simp)) (by omega) (by simp; omega) ?_; intro v5 w5 ho5 hg5; have HO5 : Hid _ := ho5; have F5 : Hid (FBox d u0 c0 u2 c2 w w5) := ((F4.out.alloc _).alloc _).grown hg5 (fun q hq => (HO4.out.ge hq).1); clear ho5 hg5)
            go_roundw
            case rel => exact ⟨k + 1, by omega, by go_num, by rw [HT.out]; exact HO5.out, F5.out⟩
            case measure => simp [intOf]; omega
          · by_cases h25 : y.op = 25
            · have HT : Hid (unitN d (k + 1) = unitN d k ++ [(k : Int)]) := unit_yes (by rw [hi]; simp [unitO, unitY, h25])
              clear hi
              go_wp2_with (at_builtin; refine push_int rfl _ _ rfl (w.heap.size + 1) (.slice ta (unitN d k).length tc) (unitN d k) rfl ((HO4.out.alloc _).alloc _) (k : Int) _ 1 rfl (by exact one_cell_at (by simp)) (by omega) (by simp; omega) ?_; intro v5 w5 ho5 hg5; have HO5 : Hid _ := ho5; have F5 : Hid (FBox d u0 c0 u2 c2 w w5) := ((F4.out.alloc _).alloc _).grown hg5 (fun q hq => (HO4.out.ge hq).1); clear ho5 hg5)
              go_roundw
              case rel => exact ⟨k + 1, by omega, by go_num, by rw [HT.out]; exact HO5.out, F5.out⟩
              case measure => simp [intOf]; omega
            · have HT : Hid (unitN d (k + 1) = unitN d k) := unit_no (by rw [hi]; simp [unitO, unitY, h24, h25])
              have n24 : (y.op == 24) = false := by simpa using h24
              have n25 : (y.op == 25) = false := by simpa using h25
              clear hi
              go_wp2_with fail
              go_roundw
              case rel => exact ⟨k + 1, by omega, by go_num, by rw [HT.out]; exact HO4.out.alloc _, F4.out.alloc _⟩
              case measure => simp [intOf]; omega
      · have hke : k = cntF d := by omega
        subst hke
        go_wp2_with fail
        go_ret
        exact ⟨_, rfl, by rw [HR.out, HE.out]; exact HO.out.low (by omega), F3.out.below⟩
end Go.Proofs.Ytikhepfbljhaaaa
