/- The units of a function: the model's side. -/
import Derived.Test.YtikhepfbljhaaaaUnt
namespace Go.Proofs.Ytikhepfbljhaaaa
open Go.RowKit
set_option linter.unusedVariables false

theorem cntL_split (l : List BlockD) (k : Nat) : cntL l = cntL (l.take k) + cntL (l.drop k) := by rw [← cntL_append, List.take_append_drop]
theorem cntL_upto (l : List BlockD) (k : Nat) : cntL (l.take k) ≤ cntL l := by have := cntL_split l k; omega
theorem cnt_reach {d : FuncD} {k : Nat} (hk : k < d.blocks.length) : d.params.length + cntL (d.blocks.take k) + cntB (d.blocks.getD k block0) ≤ cntF d := by
  have h := cntL_take d.blocks k hk
  have h2 := cntL_upto d.blocks (k + 1)
  unfold cntF
  omega
theorem int_nat {k : Nat} {n : Int} (h : n = (k : Int)) : Value.int .i64 n = .int .i64 (k : Int) := by rw [h]
set_option maxHeartbeats 4000000 in
theorem l19unitsS (lo : Nat) (d : FuncD) (u0 : Option Addr) (c0 : Nat) (u2 : Option Addr) (c2 : Nat) (w : World) (hs : SmFunc d) (k2 : BlocksAt w lo u2 d.blocks) (h60 : cntF d ≤ 60) :
    Calls Try.prog 16 #[.agg #[.slice u0 d.params.length c0, .int .i64 d.ret, .slice u2 d.blocks.length c2]] w fun e w' => ∃ v, e = .returned v ∧ Row w' w.heap.size v (unitN d (cntF d)) ∧ Below w.heap.size w w' := by
  have F0 : Hid (FBox d u0 c0 u2 c2 w (w.alloc (.cells #[.slice u0 d.params.length c0, .int .i64 d.ret, .slice u2 d.blocks.length c2] 30))) := FBox.start
  have HK : Hid (BlocksAt w lo u2 d.blocks) := k2
  have hbl := hs.2.1
  have hpl := hs.1
  have HS : Hid (∀ p ∈ d.blocks, SmBlock p) := hs.2.2
  clear k2 hs
  go_enter Try.func16, Try.ntmps16
  go_wp2_with fail
  go_loopw [3, 4, 5] (fun st id i wr => ∃ k : Nat, k ≤ d.blocks.length ∧ i = .int .i64 k ∧ id = .int .i64 ((d.params.length + cntL (d.blocks.take k) : Nat) : Int) ∧ Hid (Row wr (w.heap.size + 1) st (unitN d (d.params.length + cntL (d.blocks.take k)))) ∧ Hid (FBox d u0 c0 u2 c2 w wr)) (fun _ _ i _ => d.blocks.length - (intOf i).toNat)
  case atStart =>
    refine ⟨0, by omega, rfl, int_nat (by simp [cntL]), ?_, F0.out.alloc _⟩
    have e : unitN d (d.params.length + cntL (d.blocks.take 0)) = [] := by
      have h := unit_skip d 0 d.params.length (fun j hj => by rw [Nat.zero_add, inst_par hj]; rfl)
      rw [Nat.zero_add] at h
      exact h
    rw [e]
    have h := Row.lit (w.alloc (.cells #[.slice u0 d.params.length c0, .int .i64 d.ret, .slice u2 d.blocks.length c2] 30)) (w.heap.size + 1) (by simp)
    have hz : (w.alloc (.cells #[.slice u0 d.params.length c0, .int .i64 d.ret, .slice u2 d.blocks.length c2] 30)).heap.size = w.heap.size + 1 := by simp
    rw [hz] at h
    exact h
  case round =>
    obtain ⟨k, hk, rfl, rfl, HO, F3⟩ := hrel
    obtain ⟨ta, tc, rfl⟩ := HO.out.slice
    obtain ⟨b0, b1, b2, _, _⟩ := F3.out
    by_cases hlt : k < d.blocks.length
    · have hreach := cnt_reach hlt
      rcases HK.out.2 with hn | ⟨b, off, rfl, hlo, hb, hcell⟩
      · simp [hn] at hlt
      obtain ⟨⟨v0, r0, g0, n0⟩, ⟨v1, r1, g1, n1⟩, _, _, _, _⟩ := hcell k hlt
      have hsm := HS.out _ (getD_mem block0 d.blocks k hlt)
      have HSK : Hid (unitN d (d.params.length + cntL (d.blocks.take k) + (d.blocks.getD k block0).phis.length) = unitN d (d.params.length + cntL (d.blocks.take k))) := unit_skip d _ _ fun j hj => by rw [inst_phi hlt hj]; rfl
      have HIN : Hid (∀ j, j < (d.blocks.getD k block0).insts.length → instF d ((d.params.length + cntL (d.blocks.take k) + (d.blocks.getD k block0).phis.length + j : Nat) : Int) = some ((d.blocks.getD k block0).insts.getD j inst0)) := fun j hj => inst_inst hlt hj
      have HTK : Hid (cntL (d.blocks.take (k + 1)) = cntL (d.blocks.take k) + cntB (d.blocks.getD k block0)) := cntL_take d.blocks k hlt
      have s0 := hsm.1.1
      have s1 := hsm.2.1
      have hcb : cntB (d.blocks.getD k block0) = (d.blocks.getD k block0).phis.length + (d.blocks.getD k block0).insts.length := rfl
      generalize cntB (d.blocks.getD k block0) = cb at *
      generalize d.blocks.getD k block0 = x at *
      generalize hc : d.params.length + cntL (d.blocks.take k) = c at *
      have HC : Hid (d.params.length + cntL (d.blocks.take k) = c) := hc
      have HG0 : Hid (w.cell? ⟨b, off + k * 6, none⟩ = some (.slice v0 x.phis.length r0)) := g0
      have HG1 : Hid (w.cell? ⟨b, off + k * 6 + 1, none⟩ = some (.slice v1 x.insts.length r1)) := g1
      have e0 : wr.cell? ⟨b, off + k * 6, none⟩ = some (.slice v0 x.phis.length r0) := (cell_block (F3.out.below.block b hb)).trans g0
      have HN1 : Hid (InstsAt w lo v1 x.insts) := n1
      have HCB : Hid (cb = x.phis.length + x.insts.length) := hcb
      have hcb60 : c + (x.phis.length + x.insts.length) ≤ 60 := by omega
      clear hc hcell n0 n1 g0 g1 hsm hcb hreach
      go_wp2_with fail
      go_loopw [3, 4, 6] (fun st id i wq => ∃ j : Nat, j ≤ x.insts.length ∧ i = .int .i64 j ∧ id = .int .i64 ((c + x.phis.length + j : Nat) : Int) ∧ Hid (Row wq (w.heap.size + 1) st (unitN d (c + x.phis.length + j))) ∧ Hid (FBox d u0 c0 (some ⟨b, off, none⟩) c2 w wq)) (fun _ _ i _ => x.insts.length - (intOf i).toNat)
      case atStart => exact ⟨0, by omega, rfl, int_nat (by simp), by show Row wr _ _ (unitN d (c + x.phis.length)); rw [HSK.out]; exact HO.out, F3.out⟩
      case round =>
        obtain ⟨j, hj, rfl, rfl, HO5, F5⟩ := hrel
        obtain ⟨ta5, tc5, rfl⟩ := HO5.out.slice
        obtain ⟨y0, y1, y2, _, _⟩ := F5.out
        have hul := unitN_len d (c + x.phis.length + j)
        clear b0 b1 b2 e0
        have e1 : wr.cell? ⟨b, off + k * 6 + 1, none⟩ = some (.slice v1 x.insts.length r1) := (cell_block (F5.out.below.block b hb)).trans HG1.out
        have hz5 := F5.out.size
        by_cases hjl : j < x.insts.length
        · rcases HN1.out.2 with hn | ⟨bp, op, rfl, hlp, hbp, hcp⟩
          · simp [hn] at hjl
          obtain ⟨i0, _⟩ := hcp j hjl
          have HI := HIN.out j hjl
          generalize x.insts.getD j inst0 = y at *
          have f0 : wr.cell? ⟨bp, op + j * 7, none⟩ = some (.int .i64 y.op) := (cell_block (F5.out.below.block bp hbp)).trans i0
          clear hcp i0
          by_cases h24 : y.op = 24
          · have HT : Hid (unitN d (c + x.phis.length + (j + 1)) = unitN d (c + x.phis.length + j) ++ [((c + x.phis.length + j : Nat) : Int)]) := unit_yes (k := c + x.phis.length + j) (by rw [HI]; simp [unitO, unitY, h24])
            clear HI
            go_wp2_with (at_builtin; refine push_int rfl _ _ rfl (w.heap.size + 1) (.slice ta5 (unitN d (c + x.phis.length + j)).length tc5) (unitN d (c + x.phis.length + j)) rfl (HO5.out.alloc _) ((c + x.phis.length + j : Nat) : Int) _ 1 rfl (by exact one_cell_at (by simp)) (by omega) (by simp; omega) ?_; intro v6 w6 ho6 hg6; have HO6 : Hid _ := ho6; have F6 : Hid (FBox d u0 c0 (some ⟨b, off, none⟩) c2 w w6) := (F5.out.alloc _).grown hg6 (fun q hq => (HO5.out.ge hq).1); clear ho6 hg6)
            go_roundw
            case rel => exact ⟨j + 1, by omega, by go_num, int_nat (by push_cast; omega), by rw [HT.out]; exact HO6.out, F6.out⟩
            case measure => simp [intOf]; omega
          · by_cases h25 : y.op = 25
            · have HT : Hid (unitN d (c + x.phis.length + (j + 1)) = unitN d (c + x.phis.length + j) ++ [((c + x.phis.length + j : Nat) : Int)]) := unit_yes (k := c + x.phis.length + j) (by rw [HI]; simp [unitO, unitY, h25])
              clear HI
              go_wp2_with (at_builtin; refine push_int rfl _ _ rfl (w.heap.size + 1) (.slice ta5 (unitN d (c + x.phis.length + j)).length tc5) (unitN d (c + x.phis.length + j)) rfl (HO5.out.alloc _) ((c + x.phis.length + j : Nat) : Int) _ 1 rfl (by exact one_cell_at (by simp)) (by omega) (by simp; omega) ?_; intro v6 w6 ho6 hg6; have HO6 : Hid _ := ho6; have F6 : Hid (FBox d u0 c0 (some ⟨b, off, none⟩) c2 w w6) := (F5.out.alloc _).grown hg6 (fun q hq => (HO5.out.ge hq).1); clear ho6 hg6)
              go_roundw
              case rel => exact ⟨j + 1, by omega, by go_num, int_nat (by push_cast; omega), by rw [HT.out]; exact HO6.out, F6.out⟩
              case measure => simp [intOf]; omega
            · have HT : Hid (unitN d (c + x.phis.length + (j + 1)) = unitN d (c + x.phis.length + j)) := unit_no (k := c + x.phis.length + j) (by rw [HI]; simp [unitO, unitY, h24, h25])
              have n24 : (y.op == 24) = false := by simpa using h24
              have n25 : (y.op == 25) = false := by simpa using h25
              clear HI
              go_wp2_with fail
              go_roundw
              case rel => exact ⟨j + 1, by omega, by go_num, int_nat (by push_cast; omega), by rw [HT.out]; exact HO5.out, F5.out⟩
              case measure => simp [intOf]; omega
        · have hje : j = x.insts.length := by omega
          have e9 : Hid (d.params.length + cntL (d.blocks.take (k + 1)) = c + x.phis.length + j) := by show _ = _; rw [HTK.out, ← Nat.add_assoc, HC.out, HCB.out, hje]; omega
          clear hje
          go_wp2_with fail
          go_roundw
          case rel => exact ⟨k + 1, by omega, by go_num, int_nat (by rw [e9.out]), by rw [e9.out]; exact HO5.out, F5.out⟩
          case measure => simp [intOf]; omega
    · have hke : k = d.blocks.length := by omega
      have e9 : Hid (d.params.length + cntL (d.blocks.take k) = cntF d) := by show _ = _; rw [hke, List.take_length]; rfl
      clear hke
      go_wp2_with fail
      go_ret
      refine ⟨_, rfl, ?_, F3.out.below⟩
      have h := HO.out.low (lo' := w.heap.size) (by omega)
      rw [e9.out] at h
      rw [← e9.out]
      exact HO.out.low (by omega)
set_option maxHeartbeats 2000000 in
theorem unitsS (lo : Nat) (d : FuncD) (u0 : Option Addr) (c0 : Nat) (u2 : Option Addr) (c2 : Nat) (r : List Int) (w : World) (hs : SmFunc d) (k0 : IntsAt w lo u0 d.params) (k2 : BlocksAt w lo u2 d.blocks) (hr : UnitR d r) :
    Calls Try.prog 5 #[.agg #[.slice u0 d.params.length c0, .int .i64 d.ret, .slice u2 d.blocks.length c2]] w fun e w' => ∃ u c, e = .returned (.slice u r.length c) ∧ IntsAt w' w.heap.size u r ∧ Below w.heap.size w w' := by
  have F0 : Hid (FBox d u0 c0 u2 c2 w (w.alloc (.cells #[.slice u0 d.params.length c0, .int .i64 d.ret, .slice u2 d.blocks.length c2] 30))) := FBox.start
  have HR : Hid (r = unitsD d) := hr
  have HK : Hid (BlocksAt w lo u2 d.blocks) := k2
  have HS : Hid (SmFunc d) := hs
  have K0 := k0.keep (agree_alloc w (.cells #[.slice u0 d.params.length c0, .int .i64 d.ret, .slice u2 d.blocks.length c2] 30) _)
  clear hr
  go_enter Try.func5, Try.ntmps5
  go_wp2_with fail
  refine (funcShS lo d _ _ _ _ 3 _ hs K0 (k2.keep (agree_alloc _ _ _)) (by decide) (by decide)).mono ?_
  rintro e w1 ⟨rfl, hb1⟩
  have F1 : Hid (FBox d u0 c0 u2 c2 w w1) := F0.out.keep hb1
  clear hb1 F0 K0 k2
  cases hf : funcB 3 d with
  | false =>
    have HE : Hid (unitsD d = []) := by show _ = _; unfold unitsD; rw [hf]; rfl
    have hz := F1.out.size
    clear hf
    go_wp2_with fail
    go_ret
    rw [HR.out, HE.out]
    exact ⟨_, _, rfl, ⟨by simp, .inl rfl⟩, F1.out.below.alloc (by omega) _⟩
  | true =>
    have HE : Hid (unitsD d = unitN d (cntF d)) := by show _ = _; unfold unitsD; rw [hf]; rfl
    have hc60 := cntF_small hf
    clear hf
    obtain ⟨b0, b1, b2, hB1, hz1⟩ := F1.out
    go_wp2_with fail
    refine (l19unitsS lo d _ _ _ _ _ hs (HK.out.keep (agree_of_below hB1 lo)) hc60).mono ?_
    rintro e w2 ⟨v2, rfl, ho, hb2⟩
    have hul := unitN_len d (cntF d)
    have hW := hB1.trans (hb2.mono hB1.size)
    obtain ⟨u, c, rfl, hi⟩ := ho.ints (by omega)
    have HI : Hid (IntsAt w2 w.heap.size u (unitN d (cntF d))) := hi.low (by omega)
    clear hi ho hb2 b0 b1 b2 hB1
    go_wp2_with fail
    go_ret
    rw [HR.out, HE.out]
    exact ⟨_, _, rfl, HI.out, hW⟩
end Go.Proofs.Ytikhepfbljhaaaa
