/- Numbers told to a loop: functions and modules. -/
import Derived.Test.YtojhakjkfkmklaaGreatDoorPbCQ
import Derived.Test.YtojhakjkfkmklaaGreatDoorRvrQ
import Derived.Test.YtojhakjkfkmklaaGreatDoorSzQ
import Derived.Lib.Builder
import Derived.Shelf.Strings.Builder1
import Derived.OwnWalk
import Derived.Laws.AppendOwn
namespace Go.Proofs.YtojhakjkfkmklaaGreatDoor
open Go.RowKit Go.Shelf
attribute [local go_sem] Oper.semAt_some
set_option linter.unusedVariables false

set_option maxHeartbeats 8000000 in
theorem tellFuncI (l : Nat) (Kp : World → World → Prop) (N : Nat) (J Jx : List Int → World → Prop) (hL : LpM l Kp N J Jx) (m lo : Nat) (d : FuncD) (u0 : Option Addr) (c0 : Nat) (u2 : Option Addr) (c2 : Nat) (funcs : Int) (hs : SmFunc d) (hf : funcB funcs d = true) (pre : List Int) (hpl : pre.length + (funcM d).length ≤ N) (W w0 : World) (hJ : J pre W) (hA : ∀ V, Kp W V → Agree lo w0 V) (k0 : IntsAt w0 lo u0 d.params) (k2 : BlocksAt w0 lo u2 d.blocks) :
    CallsIn Fence.wide m Tryz.prog 47 #[.agg #[.slice u0 d.params.length c0, .int .i64 d.ret, .slice u2 d.blocks.length c2], .func (.yield l) #[] #[]] W fun e W' => Told Kp J Jx pre (funcM d) W e W' := by
  obtain ⟨hp4, hb10, hc60, hbs⟩ := funcB_parts hf
  have HBS : Hid (d.blocks.all (blockB (cntF d) d.blocks.length funcs) = true) := hbs
  have HSB : Hid (∀ x ∈ d.blocks, SmBlock x) := hs.2.2
  have hFM : (funcM d).length = (fheadM d).length + (d.blocks.flatMap blockM).length := by unfold funcM; rw [List.length_append]
  have hFH : (fheadM d).length = d.params.length + 3 := by simp [fheadM, listN]
  have HK2 : Hid (BlocksAt w0 lo u2 d.blocks) := k2
  have HA : Hid (∀ V, Kp W V → Agree lo w0 V) := hA
  have HK0 : Hid (IntsAt w0 lo u0 d.params) := k0
  clear hbs hf hs k0 k2 hA
  have B0 : Below W.heap.size W (W.alloc (.cells #[.slice u0 d.params.length c0, .int .i64 d.ret, .slice u2 d.blocks.length c2] 49)) := (Below.refl _ _).alloc (Nat.le_refl _) _
  have A0 := At.new W #[.slice u0 d.params.length c0, .int .i64 d.ret, .slice u2 d.blocks.length c2] 49
  obtain ⟨fn, tmps, assign, body, hy, hR⟩ := hL.y (m - 1) pre d.ret _ (hL.jb pre hJ B0) (by omega)
  refine callsIn_of_wp Tryz.func47 rfl trivial ?_ rfl
  simp only [Tryz.ntmps47, List.size_toArray, List.length_cons, List.length_nil, Nat.reduceAdd, Nat.reduceSub, Array.replicate_succ, Array.replicate_zero, List.push_toArray, List.append_toArray, List.nil_append, List.cons_append]
  gi_wp2
  refine ⟨hdd _, hR.mono ?_⟩
  clear hR
  rintro e W1 (⟨rfl, hJ1, hb1⟩ | ⟨rfl, hx1⟩)
  · have A1 := hL.at hb1 A0 (by decide) (by decide)
    have HW1 : Hid (Kp W W1) := hL.kt (hL.kb B0) hb1
    have TL := tellListI l Kp hL.kr hL.kt N J Jx hL.y (m - 1) lo u0 c0 d.params (by omega) _ (by simp only [List.length_append, List.length_cons, List.length_nil]; omega) W1 hJ1 (fun V hV => HK0.out.keep (HA.out V (hL.kt HW1.out hV)))
    have d0 := (A1.cell 0).trans rfl
    clear hJ1 hb1 A0 B0
    gi_wp2
    refine ⟨trivial, hdd _, TL.mono ?_⟩
    clear TL
    rintro e W2 (⟨rfl, hJ2, hb2⟩ | ⟨rfl, hx2⟩)
    · have A2 := hL.at hb2 A1 (by decide) (by decide)
      have HW2 : Hid (Kp W W2) := hL.kt HW1.out hb2
      have TC := tellCountI l Kp hL.kr hL.kt N J Jx hL.y (m - 1) d.blocks.length (by omega) _ (by simp only [List.length_append, List.length_cons, List.length_nil, listN]; omega) W2 hJ2
      clear d0 hJ2 hb2 A1
      have d2 := (A2.cell 2).trans rfl
      gi_wp2
      refine ⟨trivial, hdd _, TC.mono ?_⟩
      clear TC
      rintro e W3 (⟨rfl, hJ3, hb3⟩ | ⟨rfl, hx3⟩)
      · have A3 := hL.at hb3 A2 (by decide) (by decide)
        have HW3 : Hid (Kp W W3) := hL.kt HW2.out hb3
        have HJ3 : Hid (J (pre ++ fheadM d) W3) := by
          show J _ _
          have := hJ3
          unfold fheadM
          simpa [List.append_assoc] using this
        clear d2 hJ3 hb3 A2
        have d2 := (A3.cell 2).trans rfl
        gi_wp2
        gi_loopw [30] (fun i wr => ∃ k : Nat, k ≤ d.blocks.length ∧ i = .int .i64 k ∧ Hid (J (pre ++ fheadM d ++ (d.blocks.take k).flatMap blockM) wr) ∧ Hid (Kp W wr)) (fun i _ => d.blocks.length - (intOf i).toNat)
        case atStart => exact ⟨0, by omega, rfl, by show J _ _; simpa using HJ3.out, HW3⟩
        case round =>
          obtain ⟨k, hk1, rfl, HJ, HB⟩ := hrel
          clear d2 A3 HJ3 HW3 HW2 HW1
          by_cases hlt : k < d.blocks.length
          · rcases HK2.out.2 with hz | ⟨bp, op, rfl, hlop, hbp, hcell⟩
            · simp [hz] at hlt
            obtain ⟨⟨v0, r0, e0', m0⟩, ⟨v1, r1, e1', m1⟩, e2', e3', e4', e5'⟩ := hcell k hlt
            have hag := HA.out wr HB.out
            have e0 := (cell_agree hag hlop hbp).trans e0'
            have e1 := (cell_agree hag hlop hbp).trans e1'
            have e2 := (cell_agree hag hlop hbp).trans e2'
            have e3 := (cell_agree hag hlop hbp).trans e3'
            have e4 := (cell_agree hag hlop hbp).trans e4'
            have e5 := (cell_agree hag hlop hbp).trans e5'
            have hxb := List.all_eq_true.1 HBS.out _ (getD_mem block0 d.blocks k hlt)
            have hsm := HSB.out _ (getD_mem block0 d.blocks k hlt)
            have hfs := flat_snoc (z := block0) blockM hlt
            have hfl := flat_le d.blocks blockM (k + 1)
            rw [hfs, List.length_append] at hfl
            have HN : Hid ((d.blocks.take (k + 1)).flatMap blockM = (d.blocks.take k).flatMap blockM ++ blockM (d.blocks.getD k block0)) := hfs
            have HM0 : Hid (PhisAt w0 lo v0 (d.blocks.getD k block0).phis) := m0
            have HM1 : Hid (InstsAt w0 lo v1 (d.blocks.getD k block0).insts) := m1
            clear hfs hcell e0' e1' e2' e3' e4' e5' m0 m1 hag
            generalize d.blocks.getD k block0 = x at e0 e1 e2 e3 e4 e5 hxb hsm hfl HN HM0 HM1
            generalize (d.blocks.take k).flatMap blockM = R at hfl HN HJ
            simp only [blockB, Bool.and_eq_true] at hxb
            have HPH : Hid (∀ p ∈ x.phis, p.ins.length ≤ 10) := fun p hp => by
              have := List.all_eq_true.1 hxb.1.1 p hp
              simp [phiB] at this
              omega
            have HIN : Hid (∀ p ∈ x.insts, SmInst p ∧ (opsD p).length ≤ 4) := fun p hp => ⟨hsm.2.2 p hp, ops_len4 (List.all_eq_true.1 hxb.1.2 p hp)⟩
            have hxp := hsm.1.1
            have hxi := hsm.2.1
            have hBM : (blockM x).length = (phisM x.phis).length + (instsM x.insts).length + (termM x.term).length := by simp [blockM]; omega
            clear hxb hsm
            have B0 : Below wr.heap.size wr (wr.alloc (.cells #[.slice v0 x.phis.length r0, .slice v1 x.insts.length r1, .int .i64 x.term.kind, .int .i64 x.term.a, .int .i64 x.term.x, .int .i64 x.term.y] 86)) := (Below.refl _ _).alloc (Nat.le_refl _) _
            have A0 := At.new wr #[.slice v0 x.phis.length r0, .slice v1 x.insts.length r1, .int .i64 x.term.kind, .int .i64 x.term.a, .int .i64 x.term.x, .int .i64 x.term.y] 86
            have HW4 : Hid (Kp W (wr.alloc (.cells #[.slice v0 x.phis.length r0, .slice v1 x.insts.length r1, .int .i64 x.term.kind, .int .i64 x.term.a, .int .i64 x.term.x, .int .i64 x.term.y] 86))) := hL.kt HB.out (hL.kb B0)
            have TP := tellPhisI l Kp N J Jx hL (m - 1) lo v0 r0 x.phis hxp HPH.out _ (by simp only [List.length_append]; omega) _ w0 (hL.jb _ HJ.out B0) (fun V hV => HA.out V (hL.kt HW4.out hV)) HM0.out
            gi_wp2
            refine ⟨trivial, hdd _, TP.mono ?_⟩
            clear TP
            rintro e W5 (⟨rfl, hJ5, hb5⟩ | ⟨rfl, hx5⟩)
            · have A5 := hL.at hb5 A0 (by decide) (by decide)
              have HW5 : Hid (Kp W W5) := hL.kt HW4.out hb5
              have TI := tellInstsI l Kp N J Jx hL (m - 1) lo v1 r1 x.insts hxi HIN.out _ (by simp only [List.length_append]; omega) W5 w0 hJ5 (fun V hV => HA.out V (hL.kt HW5.out hV)) HM1.out
              clear hJ5 hb5 A0 B0 HW4 e0 e1 e2 e3 e4 e5
              have d1 := (A5.cell 1).trans rfl
              gi_wp2
              refine ⟨trivial, hdd _, TI.mono ?_⟩
              clear TI
              rintro e W6 (⟨rfl, hJ6, hb6⟩ | ⟨rfl, hx6⟩)
              · have A6 := hL.at hb6 A5 (by decide) (by decide)
                have HW6 : Hid (Kp W W6) := hL.kt HW5.out hb6
                have TT := tellTermI l Kp N J Jx hL (m - 1) x.term _ (by simp only [List.length_append]; omega) W6 hJ6
                clear hJ6 hb6 A5 HW5 d1
                have d2 := (A6.cell 2).trans rfl
                have d3 := (A6.cell 3).trans rfl
                have d4 := (A6.cell 4).trans rfl
                have d5 := (A6.cell 5).trans rfl
                gi_wp2
                refine ⟨trivial, hdd _, TT.mono ?_⟩
                clear TT
                rintro e W7 (⟨rfl, hJ7, hb7⟩ | ⟨rfl, hx7⟩)
                · have HJ7 : Hid (J (pre ++ fheadM d ++ (d.blocks.take (k + 1)).flatMap blockM) W7) := by
                    show J _ _
                    rw [HN.out]
                    have := hJ7
                    unfold blockM
                    simpa [List.append_assoc] using this
                  have HW7 : Hid (Kp W W7) := hL.kt HW6.out hb7
                  clear hJ7 hb7
                  gi_wp2
                  go_roundw
                  case rel => exact ⟨k + 1, by omega, by go_num, HJ7, HW7⟩
                  case measure => simp [intOf]; omega
                · gi_wp2
                  go_ret
                  exact .inr ⟨rfl, hx7⟩
              · gi_wp2_with (refine wpListIn_skip (by rfl) (by rfl) ?_)
                refine ⟨trivial, ?_⟩
                gi_wp2_with (refine wpListIn_skip (by rfl) (by rfl) ?_)
                go_ret
                exact .inr ⟨rfl, hx6⟩
            · gi_wp2_with (refine wpListIn_skip (by rfl) (by rfl) ?_)
              refine ⟨trivial, ?_⟩
              gi_wp2_with (refine wpListIn_skip (by rfl) (by rfl) ?_)
              refine ⟨trivial, ?_⟩
              gi_wp2_with (refine wpListIn_skip (by rfl) (by rfl) ?_)
              go_ret
              exact .inr ⟨rfl, hx5⟩
          · have HJ2 : Hid (J (pre ++ funcM d) wr) := by
              show J _ _
              have := HJ.out
              rw [flat_all d.blocks blockM hlt] at this
              unfold funcM
              simpa [List.append_assoc] using this
            gi_wp2
            go_ret
            exact .inl ⟨rfl, HJ2.out, HB.out⟩
      · gi_wp2
        go_ret
        exact .inr ⟨rfl, hx3⟩
    · gi_wp2_with (refine wpListIn_skip (by rfl) (by rfl) ?_)
      refine ⟨trivial, ?_⟩
      gi_wp2_with (refine wpListIn_skip (by rfl) (by rfl) ?_)
      go_ret
      exact .inr ⟨rfl, hx2⟩
  · gi_wp2_with (refine wpListIn_skip (by rfl) (by rfl) ?_)
    refine ⟨trivial, ?_⟩
    gi_wp2_with (refine wpListIn_skip (by rfl) (by rfl) ?_)
    refine ⟨trivial, ?_⟩
    gi_wp2_with (refine wpListIn_skip (by rfl) (by rfl) ?_)
    go_ret
    exact .inr ⟨rfl, _, hx1⟩
set_option maxHeartbeats 8000000 in
theorem numbersMI (l : Nat) (Kp : World → World → Prop) (N : Nat) (J Jx : List Int → World → Prop) (hL : LpM l Kp N J Jx) (m lo Bp : Nat) (fs : List FuncD) (u : Option Addr) (c : Nat) (hs : SmMod fs) (hm : modB fs = true) (hN : 2500 ≤ N) (W w0 : World) (h0 : J [] W) (hA : ∀ V, Kp W V → Agree lo w0 V) (hX : ∀ V, Kp W V → Box1 V Bp fs.length u c) (hk : FuncsAt w0 lo u fs) :
    CallsIn Fence.wide m Tryz.prog 45 #[.func (.yield l) #[] #[], .pointer (some ⟨Bp, 0, none⟩)] W fun e W' => (∃ v, e = .returned v) ∧ (J (modM fs) W' ∨ ∃ q, Jx q W') := by
  have hlen := modM_len hm
  obtain ⟨hl3, hf3⟩ := modB_parts hm
  have HF : Hid (∀ d ∈ fs, funcB fs.length d = true) := hf3
  have HS : Hid (∀ d ∈ fs, SmFunc d) := hs.2
  have HK : Hid (FuncsAt w0 lo u fs) := hk
  have HA : Hid (∀ V, Kp W V → Agree lo w0 V) := hA
  have HX : Hid (∀ V, Kp W V → Box1 V Bp fs.length u c) := hX
  have hM : (modM fs).length = 1 + (fs.flatMap funcM).length := by unfold modM; rw [List.length_cons]; omega
  clear hm hf3 hs hk hA hX
  have y0 := (HX.out W (hL.kr W)).2
  have TC := tellCountI l Kp hL.kr hL.kt N J Jx hL.y (m - 1) fs.length (by omega) [] (by simp; omega) W h0
  refine callsIn_of_wp Tryz.func45 rfl trivial ?_ rfl
  simp only [Tryz.ntmps45, List.size_toArray, List.length_cons, List.length_nil, Nat.reduceAdd, Nat.reduceSub, Array.replicate_succ, Array.replicate_zero, List.push_toArray, List.append_toArray, List.nil_append, List.cons_append]
  gi_wp2
  refine ⟨trivial, hdd _, TC.mono ?_⟩
  clear TC
  rintro e W1 (⟨rfl, hJ1, hb1⟩ | ⟨rfl, hx1⟩)
  · clear y0
    have y0 := (HX.out W1 hb1).2
    gi_wp2
    gi_loopw [14] (fun i wr => ∃ k : Nat, k ≤ fs.length ∧ i = .int .i64 k ∧ Hid (J ((fs.length : Int) :: (fs.take k).flatMap funcM) wr) ∧ Hid (Kp W wr)) (fun i _ => fs.length - (intOf i).toNat)
    case atStart => exact ⟨0, by omega, rfl, by show J _ _; simpa using hJ1, hb1⟩
    case round =>
      obtain ⟨k, hk1, rfl, HJ, HB⟩ := hrel
      clear y0 hJ1 hb1
      by_cases hlt : k < fs.length
      · rcases HK.out.2 with hz | ⟨bp, op, rfl, hlop, hbp, hcell⟩
        · simp [hz] at hlt
        obtain ⟨⟨p0, q0, e0', m0⟩, e1', ⟨p2, q2, e2', m2⟩⟩ := hcell k hlt
        have hag := HA.out wr HB.out
        have e0 := (cell_agree hag hlop hbp).trans e0'
        have e1 := (cell_agree hag hlop hbp).trans e1'
        have e2 := (cell_agree hag hlop hbp).trans e2'
        have hfb := HF.out _ (getD_mem func0 fs k hlt)
        have hsm := HS.out _ (getD_mem func0 fs k hlt)
        have hfs := flat_snoc (z := func0) funcM hlt
        have hfl := flat_le fs funcM (k + 1)
        rw [hfs, List.length_append] at hfl
        have HN : Hid ((fs.take (k + 1)).flatMap funcM = (fs.take k).flatMap funcM ++ funcM (fs.getD k func0)) := hfs
        have HM0 : Hid (IntsAt w0 lo p0 (fs.getD k func0).params) := m0
        have HM2 : Hid (BlocksAt w0 lo p2 (fs.getD k func0).blocks) := m2
        clear hfs hcell e0' e1' e2' m0 m2 hag
        generalize fs.getD k func0 = d at e0 e1 e2 hfb hsm hfl HN HM0 HM2
        generalize (fs.take k).flatMap funcM = R at hfl HN HJ
        have B0 : Below wr.heap.size wr (wr.alloc (.cells #[.slice p0 d.params.length q0, .int .i64 d.ret, .slice p2 d.blocks.length q2] 49)) := (Below.refl _ _).alloc (Nat.le_refl _) _
        have HW4 : Hid (Kp W (wr.alloc (.cells #[.slice p0 d.params.length q0, .int .i64 d.ret, .slice p2 d.blocks.length q2] 49))) := hL.kt HB.out (hL.kb B0)
        have TF := tellFuncI l Kp N J Jx hL (m - 1) lo d p0 q0 p2 q2 fs.length hsm hfb _ (by simp only [List.length_cons]; omega) _ w0 (hL.jb _ HJ.out B0) (fun V hV => HA.out V (hL.kt HW4.out hV)) HM0.out HM2.out
        clear hsm hfb
        gi_wp2
        refine ⟨trivial, hdd _, TF.mono ?_⟩
        clear TF
        rintro e W5 (⟨rfl, hJ5, hb5⟩ | ⟨rfl, hx5⟩)
        · have HJ5 : Hid (J ((fs.length : Int) :: (fs.take (k + 1)).flatMap funcM) W5) := by
            show J _ _
            rw [HN.out]
            simpa using hJ5
          have HW5 : Hid (Kp W W5) := hL.kt HW4.out hb5
          clear hJ5 hb5
          gi_wp2
          go_roundw
          case rel => exact ⟨k + 1, by omega, by go_num, HJ5, HW5⟩
          case measure => simp [intOf]; omega
        · gi_wp2
          refine bodyPost_ret (results_none rfl _ _ _) rfl ?_
          exact ⟨⟨_, rfl⟩, .inr hx5⟩
      · have HF2 : Hid (J (modM fs) wr) := by
          show J _ _
          have := HJ.out
          rw [flat_all fs funcM hlt] at this
          exact this
        gi_wp2
        go_end0
        exact ⟨⟨_, rfl⟩, .inl HF2.out⟩
  · gi_wp2
    refine bodyPost_ret (results_none rfl _ _ _) rfl ?_
    exact ⟨⟨_, rfl⟩, .inr hx1⟩
end Go.Proofs.YtojhakjkfkmklaaGreatDoor
namespace Go.Proofs.YtojhakjkfkmklaaGreatDoor
open Go.RowKit
set_option linter.unusedVariables false

/-- A builder at block b; p: its own address, or nothing yet; v: its buffer. -/
structure Bld (w : World) (B b : Nat) (p v : Value) (bs : List Value) : Prop where
  ge : B ≤ b
  block : w.heap[b]? = some (.cells #[p, v] 64 (0, 0))
  row : w.ownsRow B 5 1 v bs.length bs
  ne : v.ownBlock ≠ some b
theorem Bld.lt {w : World} {B b : Nat} {p v : Value} {bs : List Value} (h : Bld w B b p v bs) : b < w.heap.size := by
  rcases Nat.lt_or_ge b w.heap.size with h' | h'
  · exact h'
  · have := h.block; rw [Array.getElem?_eq_none h'] at this; cases this
theorem infoBld : (Tryz.prog.info? 64).map (fun i => i.size) = some 2 := by kernel_rfl
set_option maxRecDepth 100000 in
theorem checkUsed (w : World) (b : Nat) (h0 : w.cell? ⟨b, 0, none⟩ = some (.pointer (some ⟨b, 0, none⟩))) :
    Calls Tryz.prog 81 #[.pointer (some ⟨b, 0, none⟩)] w fun e w' => e = .returned (.tuple #[]) ∧ w' = w := by
  obtain ⟨j, hj, _⟩ := Option.map_eq_some_iff.1 infoBld
  go_enter Tryz.func81, Tryz.ntmps81
  go_wp2_with fail
  rw [Lib.run_neq_ptr_same w _ Tryz.underlying62 hj]
  go_wp2_with fail
  go_end0
  exact ⟨rfl, rfl⟩
set_option maxRecDepth 100000 in
theorem checkFresh (w : World) (b : Nat) (h0 : w.cell? ⟨b, 0, none⟩ = some (.pointer none)) (hsh : w.shape? b = some (64, 2)) (hfz : w.frozen? ⟨b, 0, none⟩ = false) :
    Calls Tryz.prog 81 #[.pointer (some ⟨b, 0, none⟩)] w fun e w' => e = .returned (.tuple #[]) ∧ w' = w.setCell ⟨b, 0, none⟩ (.pointer (some ⟨b, 0, none⟩)) := by
  obtain ⟨j, hj, hjs⟩ := Option.map_eq_some_iff.1 infoBld
  go_enter Tryz.func81, Tryz.ntmps81
  go_wp2_with fail
  rw [Lib.run_to_unsafe w ⟨b, 0, none⟩ Tryz.underlying62 Tryz.underlying142 hj (by rw [hjs]; decide) hsh (Nat.zero_lt_succ 1)]
  simp only [Result.andThen]
  rw [Oper.upon_value]
  go_wp2_with fail
  rw [run_callFunc_extern Tryz.func114 (by kernel_rfl) (by kernel_rfl) (by kernel_rfl) (e := Extern.AbiNoEscape.same) (by kernel_rfl)]
  rw [Lib.run_noEscape]
  simp only [Result.andThen]
  rw [Oper.upon_value]
  go_wp2_with fail
  rw [Lib.run_from_unsafe w ⟨b, 0, none⟩ Tryz.underlying142 Tryz.underlying62 hj hsh (by kernel_rfl)]
  simp only [Result.andThen]
  rw [Oper.upon_value]
  go_wp2_with fail
  go_end0
  exact ⟨rfl, rfl⟩
theorem infoU8 : (Tryz.prog.info? 5).map (fun i => (i.zero, i.size, i.bytes)) = some (some (.int .u8 0), 1, 1) := by kernel_rfl
set_option maxHeartbeats 2000000 in
theorem writeI (w : World) (B b : Nat) (v : Value) (bs : List Value) (s : ByteArray) (h : Bld w B b (.pointer (some ⟨b, 0, none⟩)) v bs) (hlen : bs.length + s.size ≤ 140737488355328) (hBw : B ≤ w.heap.size) :
    Calls Tryz.prog 42 #[.pointer (some ⟨b, 0, none⟩), .string s] w fun e w' => e = .returned (.tuple #[.int .i64 s.size, .nilIface]) ∧ ∃ v' w1, Bld w' B b (.pointer (some ⟨b, 0, none⟩)) v' (bs ++ Lib.strCells s) ∧ w.grownBy w1 v.ownBlock ∧ w' = w1.setCell ⟨b, 1, none⟩ v' := by
  obtain ⟨i0, hi, hz0, hz1, hz2⟩ := info_parts infoU8
  have hlt := h.lt
  obtain ⟨hB, hbk, hown, hne⟩ := h
  have c0 : w.cell? ⟨b, 0, none⟩ = some (.pointer (some ⟨b, 0, none⟩)) := (cell_of_heap hbk).trans rfl
  have c1 : w.cell? ⟨b, 1, none⟩ = some v := (cell_of_heap hbk).trans rfl
  have CU := checkUsed w b c0
  go_enter Tryz.func42, Tryz.ntmps42
  go_wp2_with (first | (go_at_call 81; refine CU.mono ?_; rintro e w8 ⟨rfl, h9⟩; have h8 := h9.symm; clear h9; subst h8) | (at_builtin; refine Lib.wpList_append_own_string _ rfl _ _ 22 9 rfl B 5 i0 Tryz.underlying22 Tryz.underlying9 hi hz0 hz1 hz2 _ _ _ rfl hown s rfl ?c3 ?c4 ?c5 ?_))
  case c3 => unfold maxLen; omega
  case c4 => omega
  case c5 => omega
  intro v' w2 hown' hgrow _
  have hb2 : w2.heap[b]? = some (.cells #[.pointer (some ⟨b, 0, none⟩), v] 64 (0, 0)) := by
    rw [hgrow.block b hlt (fun e => hne e.symm)]
    exact hbk
  have d0 : w2.cell? ⟨b, 0, none⟩ = some (.pointer (some ⟨b, 0, none⟩)) := (cell_of_heap hb2).trans rfl
  have d1 : w2.cell? ⟨b, 1, none⟩ = some v := (cell_of_heap hb2).trans rfl
  have f1 : w2.frozen? ⟨b, 1, none⟩ = false := froz_of_heap hb2
  obtain ⟨ao, n', cap, rfl⟩ : ∃ ao n' cap, v' = .slice ao n' cap := by
    rcases hown'.2 with ⟨hv, _⟩ | ⟨g, cap, cur, hv, _⟩
    · exact ⟨_, _, _, hv⟩
    · exact ⟨_, _, _, hv⟩
  go_wp2_with fail
  go_ret2
  have hown2 : w2.ownsRow B 5 1 (.slice ao n' cap) (bs ++ Lib.strCells s).length (bs ++ Lib.strCells s) := by simpa [Lib.strCells_length] using hown'
  have hne2 := Lib.ownBlock_ne hown2 hb2 (by decide)
  refine ⟨rfl, _, w2, ⟨hB, heap_set (o := 1) hb2, ?_, hne2⟩, hgrow, rfl⟩
  exact hown2.kept (row := some b) ⟨rfl, rfl, rfl, by simp [World.setCell], fun k _ hk => Below.heap_setCell _ _ _ _ (fun e => hk (by simp [e]))⟩ (Or.inr hne2)
set_option maxHeartbeats 2000000 in
theorem writeF (w : World) (B b : Nat) (s : ByteArray) (h : Bld w B b (.pointer none) (.slice none 0 0) []) (hlen : s.size ≤ 140737488355328) (hBw : B ≤ w.heap.size) :
    Calls Tryz.prog 42 #[.pointer (some ⟨b, 0, none⟩), .string s] w fun e w' => e = .returned (.tuple #[.int .i64 s.size, .nilIface]) ∧ ∃ v', Bld w' B b (.pointer (some ⟨b, 0, none⟩)) v' (Lib.strCells s) ∧ Below B w w' := by
  obtain ⟨i0, hi, hz0, hz1, hz2⟩ := info_parts infoU8
  have hlt := h.lt
  obtain ⟨hB, hbk, hown, hne⟩ := h
  have c0 : w.cell? ⟨b, 0, none⟩ = some (.pointer none) := (cell_of_heap hbk).trans rfl
  have hbs : (w.setCell ⟨b, 0, none⟩ (.pointer (some ⟨b, 0, none⟩))).heap[b]? = some (.cells #[.pointer (some ⟨b, 0, none⟩), .slice none 0 0] 64 (0, 0)) := heap_set (o := 0) hbk
  have CU := checkFresh w b c0 (by simp [World.shape?, hbk]) (froz_of_heap hbk)
  have hB1 : Below B w (w.setCell ⟨b, 0, none⟩ (.pointer (some ⟨b, 0, none⟩))) := (Below.refl _ _).setCell (p := ⟨b, 0, none⟩) hB _
  generalize w.setCell ⟨b, 0, none⟩ (.pointer (some ⟨b, 0, none⟩)) = W at hbs CU hB1
  have hlt1 : b < W.heap.size := Nat.lt_of_lt_of_le hlt hB1.size
  have hown1 : W.ownsRow B 5 1 (.slice none 0 0) 0 [] := World.ownsRow_nil _ _ _ _
  have c1 : W.cell? ⟨b, 1, none⟩ = some (.slice none 0 0) := (cell_of_heap hbs).trans rfl
  have hz := hB1.size
  clear c0 hbk hown hlt
  go_enter Tryz.func42, Tryz.ntmps42
  go_wp2_with (first | (go_at_call 81; refine CU.mono ?_; rintro e w8 ⟨rfl, h9⟩; have h8 := h9.symm; clear h9; subst h8) | (at_builtin; refine Lib.wpList_append_own_string _ rfl _ _ 22 9 rfl B 5 i0 Tryz.underlying22 Tryz.underlying9 hi hz0 hz1 hz2 _ _ _ rfl hown1 s rfl ?c3 ?c4 ?c5 ?_))
  case c3 => unfold maxLen; omega
  case c4 => omega
  case c5 => omega
  intro v' w2 hown' hgrow _
  have hb2 : w2.heap[b]? = some (.cells #[.pointer (some ⟨b, 0, none⟩), .slice none 0 0] 64 (0, 0)) := by
    rw [hgrow.block b hlt1 (fun e => hne e.symm)]
    exact hbs
  have d0 : w2.cell? ⟨b, 0, none⟩ = some (.pointer (some ⟨b, 0, none⟩)) := (cell_of_heap hb2).trans rfl
  have d1 : w2.cell? ⟨b, 1, none⟩ = some (.slice none 0 0) := (cell_of_heap hb2).trans rfl
  have f1 : w2.frozen? ⟨b, 1, none⟩ = false := froz_of_heap hb2
  obtain ⟨ao, n', cap, rfl⟩ : ∃ ao n' cap, v' = .slice ao n' cap := by
    rcases hown'.2 with ⟨hv, _⟩ | ⟨g, cap, cur, hv, _⟩
    · exact ⟨_, _, _, hv⟩
    · exact ⟨_, _, _, hv⟩
  go_wp2_with fail
  go_ret2
  have hown2 : w2.ownsRow B 5 1 (.slice ao n' cap) (Lib.strCells s).length (Lib.strCells s) := by simpa [Lib.strCells_length] using hown'
  have hne2 := Lib.ownBlock_ne hown2 hb2 (by decide)
  refine ⟨rfl, _, ⟨hB, heap_set (o := 1) hb2, ?_, hne2⟩, ?_⟩
  · exact hown2.kept (row := some b) ⟨rfl, rfl, rfl, by simp [World.setCell], fun k _ hk => Below.heap_setCell _ _ _ _ (fun e => hk (by simp [e]))⟩ (Or.inr hne2)
  · exact (hB1.grown hgrow (by omega) (fun k hk => by cases hk)).setCell (p := ⟨b, 1, none⟩) hB _
end Go.Proofs.YtojhakjkfkmklaaGreatDoor
namespace Go.Proofs.YtojhakjkfkmklaaGreatDoor
open Go.RowKit Go.Shelf
attribute [local go_sem] Oper.semAt_some
set_option linter.unusedVariables false

/-- What a round keeps: all blocks of cells but those of bytes and of builders, and what lies below n0. -/
def KpB (n0 : Nat) (W W' : World) : Prop := W.heap.size ≤ W'.heap.size ∧ (∀ (i : Nat) (cs : Array Value) (t : TypeId), W.heap[i]? = some (.cells cs t (0, 0)) → t ≠ 5 → t ≠ 64 → W'.heap[i]? = W.heap[i]?) ∧ (n0 ≤ W.heap.size → Below n0 W W')
theorem KpB.refl (n0 : Nat) (A : World) : KpB n0 A A := ⟨Nat.le_refl _, fun _ _ _ _ _ _ => rfl, fun _ => Below.refl _ _⟩
theorem KpB.trans {n0 : Nat} {A B C : World} (h : KpB n0 A B) (k : KpB n0 B C) : KpB n0 A C :=
  ⟨Nat.le_trans h.1 k.1, fun i cs t e h1 h2 => (k.2.1 i cs t ((h.2.1 i cs t e h1 h2).trans e) h1 h2).trans (h.2.1 i cs t e h1 h2), fun hn => (h.2.2 hn).trans (k.2.2 (Nat.le_trans hn h.1))⟩
theorem KpB.below (n0 : Nat) {A B : World} (h : Below A.heap.size A B) : KpB n0 A B :=
  ⟨h.size, fun i cs t e _ _ => h.block i (by
    rcases Nat.lt_or_ge i A.heap.size with h | h
    · exact h
    · rw [Array.getElem?_eq_none h] at e; cases e), fun hn => h.mono hn⟩
theorem KpB.alloc (n0 : Nat) (A : World) (o : Obj) : KpB n0 A (A.alloc o) := KpB.below n0 ((Below.refl _ _).alloc (Nat.le_refl _) _)
theorem KpB.fresh (n0 : Nat) (A : World) (cs : Array Value) (B : World) (h : KpB n0 (A.alloc (.cells cs 2)) B) : B.heap[A.heap.size]? = some (.cells cs 2 (0, 0)) :=
  (h.2.1 _ cs _ (heap_alloc_last A _) (by decide) (by decide)).trans (heap_alloc_last A _)
theorem cells_ne {W : World} {i r : Nat} {cs : Array Value} {t : TypeId} {z : Nat × Nat} (h : W.heap[i]? = some (.cells cs t z)) (k : ∃ o : Obj, W.heap[r]? = some o ∧ o.isCells = false) : i ≠ r := fun e => by
  obtain ⟨o, ho, hc⟩ := k
  rw [← e, h] at ho
  obtain rfl := Option.some.inj ho
  cases hc
theorem Bld.kept {W W' : World} {B b : Nat} {p v : Value} {bs : List Value} {row : Option Nat} (h : Bld W B b p v bs) (hg : W.grownBy W' row) (hr : ∀ r, row = some r → ∃ o : Obj, W.heap[r]? = some o ∧ o.isCells = false) : Bld W' B b p v bs := by
  refine ⟨h.ge, (hg.block b h.lt (fun e => cells_ne h.block (hr b e.symm) rfl)).trans h.block, ?_, h.ne⟩
  refine h.row.kept hg ?_
  rcases h.row.2 with ⟨hv, _⟩ | ⟨g, cap, cur, hv, _, hcell, _⟩
  · exact .inl (by rw [hv]; rfl)
  · refine .inr fun e => ?_
    have e2 : some g = row := by rw [← e, hv]; rfl
    exact cells_ne hcell (hr g e2.symm) rfl
theorem Bld.own {W : World} {B b : Nat} {p v : Value} {bs : List Value} (h : Bld W B b p v bs) {j : Nat} (e : v.ownBlock = some j) : B ≤ j ∧ ∃ cur, W.heap[j]? = some (.cells cur 5 (0, 0)) := by
  rcases h.row.2 with ⟨hv, _⟩ | ⟨g, cap, cur, hv, hg, hcell, _⟩
  · rw [hv] at e; cases e
  · rw [hv] at e
    have e2 : g = j := by simpa [Value.ownBlock] using e
    subst e2
    exact ⟨hg, cur, hcell⟩
theorem own_cells {W : World} {B b : Nat} {p v : Value} {bs : List Value} (h : Bld W B b p v bs) {j : Nat} {o : Obj} (e : v.ownBlock = some j) (ho : W.heap[j]? = some o) : o.isCells = true := by
  obtain ⟨_, cur, hc⟩ := h.own e
  rw [hc] at ho
  obtain rfl := Option.some.inj ho
  rfl
theorem own_ge {W : World} {B b : Nat} {p v : Value} {bs : List Value} (h : Bld W B b p v bs) {j : Nat} (e : v.ownBlock = some j) : B ≤ j := (h.own e).1
theorem own_other {W : World} {B b : Nat} {p v : Value} {bs : List Value} (h : Bld W B b p v bs) {j : Nat} {cs : Array Value} {t : TypeId} (ht : t ≠ 5) (e : v.ownBlock = some j) (hi : W.heap[j]? = some (.cells cs t (0, 0))) : False := by
  obtain ⟨_, cur, hc⟩ := h.own e
  rw [hc] at hi
  cases hi
  exact ht rfl
theorem frz_other (w : World) (g n i : Nat) (h : i ≠ g) : (w.freeze ⟨g, 0, none⟩ n).heap[i]? = w.heap[i]? := by
  unfold World.freeze
  split
  · rfl
  · show (w.heap.modify g _)[i]? = _
    rw [Array.getElem?_modify, if_neg (fun e => h e.symm)]
set_option maxHeartbeats 1000000 in
set_option maxRecDepth 100000 in
theorem stringI (w : World) (B b : Nat) (p v : Value) (l : List UInt8) (h : Bld w B b p v (Lib.byteCells l)) (h0 : l ≠ []) :
    Calls Tryz.prog 44 #[.pointer (some ⟨b, 0, none⟩)] w fun e w' => e = .returned (.string ⟨l.toArray⟩) ∧ ∃ g, v.ownBlock = some g ∧ w' = w.drew.freeze ⟨g, 0, none⟩ l.length := by
  obtain ⟨hB, hbk, hown, hne⟩ := h
  have hl0 : l.length ≠ 0 := by simpa using h0
  rw [Lib.byteCells_length] at hown
  obtain ⟨g, cap, cur, rfl, hbg, hg, hnc, hcm, hcs, htake⟩ : ∃ g cap cur, v = .slice (some ⟨g, 0, none⟩) l.length cap ∧ B ≤ g ∧ w.heap[g]? = some (.cells cur 5 (0, 0)) ∧ l.length ≤ cap ∧ cap ≤ maxLen ∧ cur.size = cap * 1 ∧ cur.toList.take (l.length * 1) = Lib.byteCells l := by
    rcases hown.2 with ⟨_, hz⟩ | ⟨g, cap, cur, hv, r⟩
    · exact absurd hz hl0
    · exact ⟨g, cap, cur, hv, r⟩
  have c1 : w.drew.cell? ⟨b, 1, none⟩ = some (.slice (some ⟨g, 0, none⟩) l.length cap) := by
    have : w.drew.heap[b]? = some (.cells #[p, .slice (some ⟨g, 0, none⟩) l.length cap] 64 (0, 0)) := hbk
    rw [cell_of_heap this]; rfl
  have hSD : (Builtin.unsafeSliceData_ #[22] 112 #[.slice (some ⟨g, 0, none⟩) l.length cap]).run Tryz.prog w.drew = .ok (.pointer (some ⟨g, 0, none⟩)) w.drew :=
    Lib.run_unsafeSliceData_row _ _ _ _ _ _ (by omega)
  have hUS : (Builtin.unsafeString_ #[112, 3] 9 #[.pointer (some ⟨g, 0, none⟩), .int .i64 l.length]).run Tryz.prog w.drew = .ok (.string ⟨l.toArray⟩) (w.drew.freeze ⟨g, 0, none⟩ l.length) := by
    refine Lib.run_unsafeString_row w.drew 112 3 9 5 Tryz.underlying112 (by kernel_rfl) g cur.size (by have hg' : w.drew.heap[g]? = some (.cells cur 5 (0, 0)) := hg; simp [World.shape?, hg']) l h0 (by omega) (by unfold maxLen at hcm; omega) ?_
    intro j x hx
    have := hown.cells (g := g) rfl j (.int .u8 x.toNat) (by simp [Lib.byteCells, hx])
    exact this
  clear hown hbk htake hcs
  go_enter Tryz.func44, Tryz.ntmps44
  go_wp2_with fail
  go_region
  all_goals (go_wp2_with fail; go_ret; exact ⟨rfl, g, rfl, rfl⟩)
theorem vb_ge : ∀ (l : List Int) (R : ByteArray), R.size ≤ (vb R l).size
  | [], R => Nat.le_refl _
  | n :: l, R => by
    have h := vb_ge l (R ++ vof n)
    rw [ByteArray.size_append] at h
    rw [vb_cons]
    omega
theorem KpB.put {n0 : Nat} {w : World} (hn : n0 ≤ w.heap.size) (W : World) (l : Nat) (o o' : Obj) (hl : w.heap.size ≤ l) (h : W.heap[l]? = some o) (hc : o.isCells = false) (hk : o.isWalk = false) : KpB n0 W (W.putObj l o') :=
  ⟨(grownBy_putObj' W l o').size, fun i cs t e _ _ => (grownBy_putObj' W l o').block i (by
    rcases Nat.lt_or_ge i W.heap.size with h' | h'
    · exact h'
    · rw [Array.getElem?_eq_none h'] at e; cases e) (fun e2 => cells_ne e ⟨o, h, hc⟩ (Option.some.inj e2)), fun _ => belowK_b hn W l o o' hl h hc hk⟩
end Go.Proofs.YtojhakjkfkmklaaGreatDoor
namespace Go.Proofs.YtojhakjkfkmklaaGreatDoor
open Go.RowKit

theorem infoBv : (Tryz.prog.info? 5).map (fun i => (i.zero, i.size, i.bytes)) = some (some (.int .u8 0), 1, 1) := by kernel_rfl
theorem own_sliceB {w : World} {b : Nat} {e : TypeId} {z : Nat} {v : Value} {n : Nat} {xs : List Value} (h : w.ownsRow b e z v n xs) : ∃ a c, v = .slice a n c := by
  rcases h.2 with ⟨rfl, rfl⟩ | ⟨g, cap, cur, rfl, _⟩
  · exact ⟨_, _, rfl⟩
  · exact ⟨_, _, rfl⟩
theorem lit_cellB {w : World} {v : Value} {t : TypeId} : ∀ j u, [v][j]? = some u → (w.alloc (.cells #[v] t)).cell? ((⟨w.heap.size, 0, none⟩ : Addr).add j) = some u := by
  intro j u hj
  rcases j with _ | j
  · simp at hj; subst hj; simp [Addr.add]
  · simp at hj
theorem own_geB {w : World} {b : Nat} {e : TypeId} {s : Nat} {v : Value} {n : Nat} {xs : List Value} (h : w.ownsRow b e s v n xs) {g : Nat} (hv : v.ownBlock = some g) : b ≤ g := (h.lt g hv).1
theorem u8_nat {q : Nat} (h : q < 256) : (UInt8.ofNat q).toNat = q := by simp; omega
/-- Bytes as cells. -/
def byteVs (l : List UInt8) : List Value := l.map fun b => .int .u8 (b.toNat : Int)
theorem byteVs_snoc (l : List UInt8) (b : UInt8) : byteVs (l ++ [b]) = byteVs l ++ [.int .u8 (b.toNat : Int)] := by simp [byteVs]
theorem conv_own {w : World} {base : Nat} {v : Value} {l : List UInt8} {n : Nat} (hn : n = l.length) (h : w.ownsRow base 5 1 v n (byteVs l)) (hl : 0 < l.length) : (convert 22 9 v).run Tryz.prog w = .ok (.string ⟨l.toArray⟩) w := by
  subst hn
  rcases h.2 with ⟨_, h0⟩ | ⟨g, cap, cur, rfl, hb, hg, r⟩
  · omega
  refine run_convert_bytes_back w _ _ 5 _ cap l Tryz.underlying22 Tryz.underlying5 Tryz.underlying9 fun j hj => ?_
  exact h.cells rfl j _ (by simp [byteVs, hj])
theorem or_i64 (a b : Nat) (ha : a < 4294967296) (hb : b < 4294967296) : bits .or .i64 (a : Int) (b : Int) = ((a ||| b : Nat) : Int) := by
  have hx : a ||| b < 2 ^ 32 := Nat.or_lt_two_pow (by omega) (by omega)
  have h1 : (BitVec.ofInt 64 (a : Int)).toNat = a := by simp; omega
  have h2 : (BitVec.ofInt 64 (b : Int)).toNat = b := by simp; omega
  show IntKind.i64.wrap ((BitVec.ofInt 64 (a : Int) ||| BitVec.ofInt 64 (b : Int)).toNat : Int) = _
  rw [BitVec.toNat_or, h1, h2, IntKind.wrap_i64]
  generalize a ||| b = q at hx
  omega
set_option maxRecDepth 100000 in
theorem or_small : ∀ a : Nat, a < 256 → a ||| 128 = 128 + a % 128 := by decide +kernel
theorem or_128 (m : Nat) : (m ||| 128) % 256 = 128 + m % 128 := by
  have h := Nat.or_mod_two_pow (a := m) (b := 128) (n := 8)
  rw [show (2 : Nat) ^ 8 = 256 from rfl] at h
  rw [h, show (128 : Nat) % 256 = 128 from rfl, or_small (m % 256) (by omega)]
  omega

set_option maxHeartbeats 2000000 in
set_option maxRecDepth 100000 in
theorem varI (a : Int) (w : World) :
    Calls Tryz.prog 43 #[.int .i64 a] w fun e w' => e = .returned (.string (vof a)) ∧ Below w.heap.size w w' := by
  obtain ⟨i0, hi, hz0, hz1, hz2⟩ := info_parts infoBv
  have HI : Hid (Tryz.prog.info? 5 = some i0) := hi
  have HZ0 : Hid (i0.zero = some (.int .u8 0)) := hz0
  have HZ1 : Hid (i0.size = 1) := hz1
  have HZ2 : Hid (i0.bytes = 1) := hz2
  clear hi hz0 hz1 hz2
  by_cases hin : 0 ≤ a ∧ a ≤ 4294967295
  · obtain ⟨n, rfl⟩ : ∃ n : Nat, a = n := ⟨a.toNat, by omega⟩
    have hn : n ≤ 4294967295 := by omega
    have HV : Hid (vof n = ⟨(vl n).toArray⟩) := by show _ = _; unfold vof; rw [if_pos hin]; rfl
    have h5 := vl_five hn
    clear hin
    go_enter Tryz.func43, Tryz.ntmps43
    go_wp2_with fail
    go_loopw [0, 3] (fun i st wr => ∃ (z : Int) (l : List UInt8), 0 ≤ z ∧ z ≤ 4294967295 ∧ l.length ≤ 5 ∧ i = .int .i64 z ∧ Hid (wr.ownsRow w.heap.size 5 1 st l.length (byteVs l)) ∧ Hid (vl n = l ++ vl z.toNat) ∧ Hid (Below w.heap.size w wr)) (fun i _ _ => (numOf i).toNat)
    case atStart => exact ⟨n, [], by omega, by omega, by simp, rfl, World.ownsRow_nil _ _ _ _, rfl, Below.refl _ _⟩
    case round =>
      obtain ⟨z, l, hm0, hm, hl, rfl, HO, HL, HB⟩ := hrel
      obtain ⟨ta, tc, rfl⟩ := own_sliceB HO.out
      have hz : w.heap.size ≤ wr.heap.size := HB.out.size
      by_cases h1 : z < 128
      · have h1' : ¬ 128 ≤ z := by omega
        have HT : Hid (byteVs l ++ [.int .u8 z] = byteVs (l ++ [UInt8.ofNat z.toNat])) := (by show _ = _; rw [byteVs_snoc, u8_nat (by omega : z.toNat < 256)]; congr 3; omega)
        have HN : Hid (l ++ [UInt8.ofNat z.toNat] = vl n) := (by show _ = _; rw [HL.out, vl_last (by omega)])
        go_wp2_with (at_builtin; refine wpList_append_own _ rfl _ _ 22 rfl w.heap.size 5 i0 (.int .u8 0) 1 1 Tryz.underlying22 HI.out HZ0.out HZ1.out HZ2.out rfl (by decide) (.slice ta l.length tc) l.length (byteVs l) rfl (by exact (HO.out.alloc _)) ⟨wr.heap.size, 0, none⟩ 1 1 [.int .u8 (z)] rfl (by simp) (by exact lit_cellB) (by simp [Value.oneCell']) (by unfold maxLen; omega) (by omega) (by simp; omega) ?_; intro v3 w3 ho3 hg3 _; have HB3 : Hid (Below w.heap.size w w3) := (HB.out.alloc hz _).grown hg3 (by simp; omega) (fun q hq => own_geB HO.out hq); rw [HT.out, HN.out] at ho3; have hcv := conv_own (by have := congrArg List.length HN.out; simpa using this) ho3 (by rw [← HN.out]; simp); clear ho3 hg3)
        go_ret
        exact ⟨by rw [HV.out]; rfl, HB3.out⟩
      · have h1' : 128 ≤ z := by omega
        obtain ⟨y, hy⟩ : ∃ y : Int, bits .or .i64 z 128 = y := ⟨_, rfl⟩
        have HY : Hid (y % 256 = ((UInt8.ofNat (128 + z.toNat % 128)).toNat : Int)) := (by
          show _ = _
          have e : bits .or .i64 z 128 = ((z.toNat ||| 128 : Nat) : Int) := (by have h := or_i64 z.toNat 128 (by omega) (by omega); rw [Int.toNat_of_nonneg hm0] at h; exact h)
          have e2 := or_128 z.toNat
          rw [hy] at e
          rw [u8_nat (by omega : 128 + z.toNat % 128 < 256)]
          generalize z.toNat ||| 128 = q at e e2
          omega)
        have hlen : l.length + 1 ≤ 5 := (by
          have h6 := congrArg List.length HL.out
          have h7 : 0 < (vl (z.toNat / 128)).length := by rw [vl]; split <;> simp
          rw [vl_more (n := z.toNat) (by omega)] at h6
          simp at h6; omega)
        go_wp2_with (at_builtin; refine wpList_append_own _ rfl _ _ 22 rfl w.heap.size 5 i0 (.int .u8 0) 1 1 Tryz.underlying22 HI.out HZ0.out HZ1.out HZ2.out rfl (by decide) (.slice ta l.length tc) l.length (byteVs l) rfl (by exact (HO.out.alloc _)) ⟨wr.heap.size, 0, none⟩ 1 1 [.int .u8 (y % 256)] rfl (by simp) (by exact lit_cellB) (by simp [Value.oneCell']) (by unfold maxLen; omega) (by omega) (by simp; omega) ?_; intro v3 w3 ho3 hg3 _; have HB3 : Hid (Below w.heap.size w w3) := (HB.out.alloc hz _).grown hg3 (by simp; omega) (fun q hq => own_geB HO.out hq); rw [HY.out, ← byteVs_snoc] at ho3; have HO3 : Hid _ := ho3; clear ho3 hg3)
        refine ⟨⟨z / 128, l ++ [UInt8.ofNat (128 + z.toNat % 128)], by omega, by omega, by simp; omega, rfl, ?_, ?_, HB3.out⟩, by simp only [numOf]; omega⟩
        · have h := HO3.out
          rw [show l.length + 1 = (l ++ [UInt8.ofNat (128 + z.toNat % 128)]).length by simp] at h
          exact h
        · show vl n = _
          rw [HL.out, vl_more (n := z.toNat) (by omega), show (z / 128).toNat = z.toNat / 128 by omega]; simp
  · have HV : Hid (vof a = ⟨#[]⟩) := by show _ = _; unfold vof; rw [if_neg hin]
    go_enter Tryz.func43, Tryz.ntmps43
    go_wp2_with fail
    all_goals first | omega | (go_ret; exact ⟨by rw [HV.out]; rfl, Below.refl _ _⟩) | trace_state
end Go.Proofs.YtojhakjkfkmklaaGreatDoor
