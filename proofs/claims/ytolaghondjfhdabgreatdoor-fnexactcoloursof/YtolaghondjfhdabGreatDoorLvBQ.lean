/- What is alive: the model's l2First and l15Back. -/
import Derived.Test.YtolaghondjfhdabGreatDoorLvPQ
import Derived.Test.YtolaghondjfhdabGreatDoorAttQ
import Derived.Test.YtolaghondjfhdabGreatDoorFmAQ
import Derived.Test.YtolaghondjfhdabGreatDoorOpsQ
import Derived.Test.YtolaghondjfhdabGreatDoorFmDQ
import Derived.Deep.RegionHeld2
import Derived.Test.YtolaghondjfhdabGreatDoorGrpQ
namespace Go.Proofs.YtolaghondjfhdabGreatDoor
open Go.RowKit
set_option linter.unusedVariables false

theorem lessV (lo : Nat) (v : Value) (l : List Int) (n : Int) (w : World) (hl : l.length ≤ 800) (hv : SlAt w lo v l) :
    Calls Tryz.prog 55 #[v, .int .i64 n] w fun e w' => ∃ v', e = .returned v' ∧ SlAt w' w.heap.size v' (lessL l n) ∧ Below w.heap.size w w' := by
  obtain ⟨g, o, c, rfl, _, _, hk⟩ := hv
  exact lessZ lo _ c l n w hl hk
theorem sumV (lo lb : Nat) (v : Value) (l : List Int) (b : Option Addr) (cb : Nat) (B : List Int) (w : World) (hl : l.length ≤ 400) (hB : B.length ≤ 400) (hv : SlAt w lo v l) (kB : IntsAt w lb b B) :
    Calls Tryz.prog 80 #[v, .slice b B.length cb] w fun e w' => ∃ v', e = .returned v' ∧ SlAt w' w.heap.size v' (sumL l B) ∧ Below w.heap.size w w' := by
  obtain ⟨g, o, c, rfl, _, _, hk⟩ := hv
  exact sumZ lo lb _ c l b cb B w hl hB hk kB
theorem blk_cell {w : World} {lo : Nat} {u : Option Addr} {d : FuncD} (h : BlocksAt w lo u d.blocks) {b : Nat} (hb : b < d.blocks.length) : ∃ g off, u = some ⟨g, off, none⟩ ∧ lo ≤ g ∧ g < w.heap.size ∧
    (∃ v c, w.cell? ⟨g, off + b * 6, none⟩ = some (.slice v (blkN d b).phis.length c) ∧ PhisAt w lo v (blkN d b).phis) ∧
    (∃ v c, w.cell? ⟨g, off + b * 6 + 1, none⟩ = some (.slice v (blkN d b).insts.length c) ∧ InstsAt w lo v (blkN d b).insts) ∧
    w.cell? ⟨g, off + b * 6 + 2, none⟩ = some (.int .i64 (blkN d b).term.kind) ∧ w.cell? ⟨g, off + b * 6 + 3, none⟩ = some (.int .i64 (blkN d b).term.a) ∧
    w.cell? ⟨g, off + b * 6 + 4, none⟩ = some (.int .i64 (blkN d b).term.x) ∧ w.cell? ⟨g, off + b * 6 + 5, none⟩ = some (.int .i64 (blkN d b).term.y) := by
  rcases h.2 with hn | ⟨g, off, ha, hlo, hg, hc⟩
  · rw [hn] at hb; simp at hb
  · exact ⟨g, off, ha, hlo, hg, hc b hb⟩
set_option maxHeartbeats 2000000 in
theorem firstS (lo : Nat) (d : FuncD) (u0 : Option Addr) (c0 : Nat) (u2 : Option Addr) (c2 : Nat) (b : Nat) (w : World) (hs : SmFunc d) (k2 : BlocksAt w lo u2 d.blocks) (hb : b ≤ d.blocks.length) :
    Calls Tryz.prog 54 #[.agg #[.slice u0 d.params.length c0, .int .i64 d.ret, .slice u2 d.blocks.length c2], .int .i64 b] w fun e w' => e = .returned (.int .i64 (firstN d b : Nat)) ∧ Below w.heap.size w w' := by
  have hp := hs.1
  have hbl := hs.2.1
  have HS : Hid (∀ p ∈ d.blocks, SmBlock p) := hs.2.2
  clear hs
  go_enter Tryz.func54, Tryz.ntmps54
  go_wp2_with fail
  go_loopw [5, 6] (fun n i wr => ∃ k : Nat, k ≤ b ∧ i = .int .i64 k ∧ n = .int .i64 ((d.params.length : Int) + (cntL (d.blocks.take k) : Int)) ∧ Below (w.heap.size + 1) (w.alloc (.cells #[.slice u0 d.params.length c0, .int .i64 d.ret, .slice u2 d.blocks.length c2] 30)) wr) (fun _ i _ => b - (intOf i).toNat)
  case atStart => exact ⟨0, by omega, rfl, by simp [cntL], Below.refl _ _⟩
  case round =>
    obtain ⟨k, hk, rfl, rfl, hB⟩ := hrel
    have b2 : wr.cell? ⟨w.heap.size, 2, none⟩ = some (.slice u2 d.blocks.length c2) := (cell_block (hB.block w.heap.size (by omega))).trans (by simp)
    have hW : Below w.heap.size w wr := ((Below.refl w.heap.size w).alloc (Nat.le_refl _) _).trans (hB.mono (by omega))
    have hct := cnt_take_le d.blocks k hbl HS.out
    by_cases hlt : k < b
    · have hkl : k < d.blocks.length := by omega
      rcases k2.2 with hn | ⟨bb, off, rfl, hlo, hbb, hcell⟩
      · simp [hn] at hkl
      obtain ⟨⟨v0, q0, h0, _⟩, ⟨v1, q1, h1, _⟩, _⟩ := hcell k hkl
      have htk := cntL_take d.blocks k hkl
      have hsm := HS.out _ (getD_mem block0 d.blocks k hkl)
      generalize d.blocks.getD k block0 = x at h0 h1 htk hsm
      have e0 : wr.cell? ⟨bb, off + k * 6, none⟩ = some (.slice v0 x.phis.length q0) := (cell_block (hW.block bb hbb)).trans h0
      have e1 : wr.cell? ⟨bb, off + k * 6 + 1, none⟩ = some (.slice v1 x.insts.length q1) := (cell_block (hW.block bb hbb)).trans h1
      have s0 := hsm.1.1
      have s1 := hsm.2.1
      have HT : Hid (cntL (d.blocks.take (k + 1)) = cntL (d.blocks.take k) + cntB x) := htk
      have HB : Hid (Below (w.heap.size + 1) (w.alloc (.cells #[.slice u0 d.params.length c0, .int .i64 d.ret, .slice (some ⟨bb, off, none⟩) d.blocks.length c2] 30)) wr) := hB
      clear hcell h0 h1 htk hsm hB hW k2
      go_wp2_with fail
      go_quiet (fail)
      go_wp2_with fail
      go_roundw
      case rel => exact ⟨k + 1, by omega, by go_num, congrArg (Value.int .i64) (by rw [HT.out]; unfold cntB; omega), below_drewN HB.out _⟩
      case measure => simp [intOf]; omega
    · have hke : k = b := by omega
      clear hB
      go_wp2_with fail
      go_ret
      exact ⟨ret_i (by rw [hke]; unfold firstN; omega), hW⟩
theorem bk_step (l : List InstD) (first : Nat) (s : List Int) {m : Nat} : bkL l first s (m + 1) = sumL (lessL (bkL l first s m) ((first + (l.length - 1 - m) : Nat) : Int)) (opsD (l.getD (l.length - 1 - m) inst0)) := rfl
theorem termO_cases (t : TermD) : (t.kind = 1 ∧ termO t = [t.a]) ∨ (t.kind = 3 ∧ termO t = [t.a]) ∨ (t.kind ≠ 1 ∧ t.kind ≠ 3 ∧ termO t = []) := by
  by_cases h1 : t.kind = 1
  · exact .inl ⟨h1, by simp [termO, h1]⟩
  · by_cases h3 : t.kind = 3
    · exact .inr (.inl ⟨h3, by simp [termO, h3]⟩)
    · exact .inr (.inr ⟨h1, h3, by simp [termO, h1, h3]⟩)
set_option maxHeartbeats 8000000 in
set_option maxRecDepth 100000 in
theorem backZ (lo lz : Nat) (d : FuncD) (u0 : Option Addr) (c0 : Nat) (u2 : Option Addr) (c2 : Nat) (b fr : Nat) (v : Value) (s : List Int) (w : World) (hs : SmFunc d) (hF : LvF d) (hb : b < d.blocks.length) (hfr : fr ≤ (blkN d b).insts.length) (hlz : lz ≤ w.heap.size) (hv : SlAt w lz v s) (hsf : Fine (cntF d) s) (k2 : BlocksAt w lo u2 d.blocks) :
    Calls Tryz.prog 52 #[.agg #[.slice u0 d.params.length c0, .int .i64 d.ret, .slice u2 d.blocks.length c2], .int .i64 b, .int .i64 fr, v] w fun e w' => ∃ v', e = .returned v' ∧ SlAt w' lz v' (backL d b s ((blkN d b).insts.length - fr)) ∧ Below w.heap.size w w' := by
  obtain ⟨bb, off, rfl, hlo, hbb, ⟨v0, r0, e0, _⟩, ⟨v1, r1, e1, m1⟩, e2, e3, e4, e5⟩ := blk_cell k2 hb
  have hsb := hs.2.2 _ (getD_mem block0 d.blocks b hb)
  have HSI : Hid (∀ i ∈ (blkN d b).insts, SmInst i) := hsb.2.2
  have hil : (blkN d b).insts.length ≤ 1048576 := hsb.2.1
  have hpl : (blkN d b).phis.length ≤ 1048576 := hsb.1.1
  have HOP : Hid (∀ i ∈ (blkN d b).insts, (opsD i).length ≤ 4) := hF.four b hb
  have hc60 := hF.cnt
  have HFN : Hid (∀ m, m ≤ (blkN d b).insts.length → Fine (cntF d) (bkL (blkN d b).insts (firstN d b + (blkN d b).phis.length) (sumL s (termO (blkN d b).term)) m)) := fun m hm => hF.back hb hsf hm
  have hFN : firstN d b ≤ 60 := first_le hF (by omega)
  have FS : Hid (∀ W, Below w.heap.size w W → Calls Tryz.prog 54 #[.agg #[.slice u0 d.params.length c0, .int .i64 d.ret, .slice (some ⟨bb, off, none⟩) d.blocks.length c2], .int .i64 b] W fun e w' => e = .returned (.int .i64 (firstN d b : Nat)) ∧ Below W.heap.size W w') := fun W h => firstS lo d u0 c0 (some ⟨bb, off, none⟩) c2 b W hs (k2.keep (agree_of_below h lo)) (by omega)
  have HG : Hid (∀ st w', SlAt w' lz st (bkL (blkN d b).insts (firstN d b + (blkN d b).phis.length) (sumL s (termO (blkN d b).term)) ((blkN d b).insts.length - fr)) → SlAt w' lz st (backL d b s ((blkN d b).insts.length - fr))) := fun st w' h => h
  have hta := hF.term b hb
  have HM0 : Hid (InstsAt w lo v1 (blkN d b).insts) := m1
  clear m1 hsb k2 hs hF
  have hbD : b < d.blocks.length := hb
  generalize backL d b s ((blkN d b).insts.length - fr) = R at *
  generalize blkN d b = x at *
  generalize firstN d b = F0 at *
  generalize cntF d = C at *
  have A0 := At.new w #[.slice u0 d.params.length c0, .int .i64 d.ret, .slice (some ⟨bb, off, none⟩) d.blocks.length c2] 30
  have B0 : Below w.heap.size w (w.alloc (.cells #[.slice u0 d.params.length c0, .int .i64 d.ret, .slice (some ⟨bb, off, none⟩) d.blocks.length c2] 30)) := (Below.refl _ _).alloc (Nat.le_refl _) _
  have f0 := (cell_block (B0.block bb hbb)).trans e0
  have f1 := (cell_block (B0.block bb hbb)).trans e1
  have f2 := (cell_block (B0.block bb hbb)).trans e2
  have f3 := (cell_block (B0.block bb hbb)).trans e3
  have f4 := (cell_block (B0.block bb hbb)).trans e4
  have f5 := (cell_block (B0.block bb hbb)).trans e5
  have A1 := At.new (w.alloc (.cells #[.slice u0 d.params.length c0, .int .i64 d.ret, .slice (some ⟨bb, off, none⟩) d.blocks.length c2] 30)) #[.slice v0 x.phis.length r0, .slice v1 x.insts.length r1, .int .i64 x.term.kind, .int .i64 x.term.a, .int .i64 x.term.x, .int .i64 x.term.y] 68
  have B1 : Below (w.alloc (.cells #[.slice u0 d.params.length c0, .int .i64 d.ret, .slice (some ⟨bb, off, none⟩) d.blocks.length c2] 30)).heap.size (w.alloc (.cells #[.slice u0 d.params.length c0, .int .i64 d.ret, .slice (some ⟨bb, off, none⟩) d.blocks.length c2] 30)) ((w.alloc (.cells #[.slice u0 d.params.length c0, .int .i64 d.ret, .slice (some ⟨bb, off, none⟩) d.blocks.length c2] 30)).alloc (.cells #[.slice v0 x.phis.length r0, .slice v1 x.insts.length r1, .int .i64 x.term.kind, .int .i64 x.term.a, .int .i64 x.term.x, .int .i64 x.term.y] 68)) := (Below.refl _ _).alloc (Nat.le_refl _) _
  have hz1 : (w.alloc (.cells #[.slice u0 d.params.length c0, .int .i64 d.ret, .slice (some ⟨bb, off, none⟩) d.blocks.length c2] 30)).heap.size = w.heap.size + 1 := by simp
  rw [hz1] at A1
  have B2 : Below w.heap.size w ((w.alloc (.cells #[.slice u0 d.params.length c0, .int .i64 d.ret, .slice (some ⟨bb, off, none⟩) d.blocks.length c2] 30)).alloc (.cells #[.slice v0 x.phis.length r0, .slice v1 x.insts.length r1, .int .i64 x.term.kind, .int .i64 x.term.a, .int .i64 x.term.x, .int .i64 x.term.y] 68)) := B0.trans (B1.mono B0.size)
  have A0' := A0.below B1
  clear e0 e1 e2 e3 e4 e5
  go_enter Tryz.func52, Tryz.ntmps52
  go_wp2_with fail
  generalize ((w.alloc (.cells #[.slice u0 d.params.length c0, .int .i64 d.ret, .slice (some ⟨bb, off, none⟩) d.blocks.length c2] 30)).alloc (.cells #[.slice v0 x.phis.length r0, .slice v1 x.insts.length r1, .int .i64 x.term.kind, .int .i64 x.term.a, .int .i64 x.term.x, .int .i64 x.term.y] 68)) = W at A1 A0' B2 ⊢
  clear f0 f1 f2 f3 f4 f5 A0 B0 B1 hz1
  have l0 := A0'.lt
  have l1 := A1.lt
  have V1 := fun xx : Abv (fun v => Below W.heap.size W v) => abv_call xx (FS.out xx.v (B2.trans (xx.ok.mono B2.size)))
  have hne : Nonempty (Abv (fun v => Below W.heap.size W v)) := abv_ne (Below.refl _ _)
  have t0 := fun xx : Abv (fun v => Below W.heap.size W v) => (bcell xx.ok w.heap.size 0 l0).trans ((A0'.cell 0).trans rfl)
  have t1 := fun xx : Abv (fun v => Below W.heap.size W v) => (bcell xx.ok w.heap.size 1 l0).trans ((A0'.cell 1).trans rfl)
  have t2 := fun xx : Abv (fun v => Below W.heap.size W v) => (bcell xx.ok w.heap.size 2 l0).trans ((A0'.cell 2).trans rfl)
  have t3 := fun xx : Abv (fun v => Below W.heap.size W v) => (bcell xx.ok (w.heap.size + 1) 0 l1).trans ((A1.cell 0).trans rfl)
  refine wp_region_abv (fun v => Below W.heap.size W v) (by kernel_rfl) (by kernel_rfl) (drew_below (Below.refl _ _)) ?_
  repeat (go_big_quiet_step (first | (go_at_call 54; with_reducible exact V1 _)))
  refine wpQuiet_nil ?_
  rintro w8 ⟨⟨w8, h8⟩, rfl⟩
  have HBW : Hid (Below w.heap.size w w8) := B2.trans (h8.mono B2.size)
  have A9 := A1.below h8
  have HM1 : Hid (InstsAt w8 lo v1 x.insts) := HM0.out.keep (agree_of_below HBW.out lo)
  clear HM0
  have hv8 : SlAt w8 lz v s := hv.below HBW.out
  clear h8 hne t0 t1 t2 t3 V1 A1 A0' B2 l0 l1 FS hv
  have y2 : w8.cell? ⟨w.heap.size + 1, 2, none⟩ = some (.int .i64 x.term.kind) := (A9.cell 2).trans rfl
  have y3 : w8.cell? ⟨w.heap.size + 1, 3, none⟩ = some (.int .i64 x.term.a) := (A9.cell 3).trans rfl
  have y1 : w8.cell? ⟨w.heap.size + 1, 1, none⟩ = some (.slice v1 x.insts.length r1) := (A9.cell 1).trans rfl
  have hsl := hsf.len
  have hFF : ((F0 : Int) + (x.phis.length : Int)) = ((F0 + x.phis.length : Nat) : Int) := by push_cast; rfl
  rw [hFF]
  have hFb : F0 + x.phis.length ≤ 2000000 := by omega
  clear hFF
  generalize F0 + x.phis.length = F at *
  clear hFN
  rcases termO_cases x.term with ⟨hk, hT⟩ | ⟨hk, hT⟩ | ⟨hk1, hk3, hT⟩
  · rw [hT] at HFN HG hta
    rw [hk] at y2
    have P := putZ lz v s x.term.a w8 (by have := HBW.out.size; omega) (by omega) hv8
    have hFine1 := HFN.out 0 (by omega)
    go_wp2_with fail
    refine P.mono ?_
    rintro e w9 ⟨v9, rfl, s9, b9⟩
    have HS0 : Hid (SlAt w9 lz v9 (bkL x.insts F (sumL s [x.term.a]) 0)) := s9
    generalize sumL s [x.term.a] = S at *
    have HBX : Hid (Below w.heap.size w w9) := HBW.out.trans (b9.mono HBW.out.size)
    have HMX : Hid (InstsAt w9 lo v1 x.insts) := HM1.out.keep (agree_of_below b9 lo)
    have AX := A9.below b9
    clear P s9 b9 y2 y3 hv8 y1 HBW HM1 A9
    have y1 : w9.cell? ⟨w.heap.size + 1, 1, none⟩ = some (.slice v1 x.insts.length r1) := (AX.cell 1).trans rfl
    go_wp2_with fail
    go_loopw [3, 11] (fun st i wr => ∃ m : Nat, m ≤ x.insts.length - fr ∧ i = .int .i64 ((x.insts.length : Int) - 1 - m) ∧ Hid (SlAt wr lz st (bkL x.insts F S m)) ∧ Hid (Below w9.heap.size w9 wr)) (fun _ i _ => (intOf i + 1 - fr).toNat)
    case atStart => exact ⟨0, by omega, by simp, HS0, Below.refl _ _⟩
    case round =>
      obtain ⟨m, hm, rfl, HX, HB⟩ := hrel
      clear y1
      have Ax := AX.below HB.out
      have y1 : wr.cell? ⟨w.heap.size + 1, 1, none⟩ = some (.slice v1 x.insts.length r1) := (Ax.cell 1).trans rfl
      have hfin := HFN.out m (by omega)
      have hlen := hfin.len
      by_cases hlt : m < x.insts.length - fr
      · rcases (HMX.out.keep (agree_of_below HB.out lo)).2 with hz | ⟨bi, oi, rfl, hloi, hbi, hcell⟩
        · rw [hz] at hlt; simp at hlt
        obtain ⟨e0, e1, e2, e3, e4, e5, ⟨i0, j0, e6, m6⟩⟩ := hcell (x.insts.length - 1 - m) (by omega)
        have hmem := getD_mem inst0 x.insts (x.insts.length - 1 - m) (by omega)
        have his := HSI.out _ hmem
        have hops := HOP.out _ hmem
        have HST : Hid (bkL x.insts F S (m + 1) = sumL (lessL (bkL x.insts F S m) ((F + (x.insts.length - 1 - m) : Nat) : Int)) (opsD (x.insts.getD (x.insts.length - 1 - m) inst0))) := bk_step _ _ _
        have HJ : Hid ((x.insts.length : Int) - 1 - m = ((x.insts.length - 1 - m : Nat) : Int)) := by show _ = _; omega
        have hjl : x.insts.length - 1 - m < x.insts.length := by omega
        have hge : (fr : Int) ≤ ((x.insts.length - 1 - m : Nat) : Int) := by omega
        have hjb : x.insts.length - 1 - m ≤ 2000000 := by omega
        rw [HJ.out]
        generalize x.insts.length - 1 - m = j at *
        generalize x.insts.getD j inst0 = y at *
        have HM6 : Hid (IntsAt wr lo i0 y.args) := m6
        have P1 := lessV lz u3 (bkL x.insts F S m) ((F + j : Nat) : Int) wr (by omega) HX.out
        have hle2 : (lessL (bkL x.insts F S m) ((F + j : Nat) : Int)).length ≤ 60 := Nat.le_trans (List.length_filter_le _ _) (by omega)
        have HFj : Hid (((F + j : Nat) : Int) = (F : Int) + (j : Int)) := by show _ = _; push_cast; rfl
        rw [HFj.out] at P1
        clear hmem hcell m6
        go_wp2_with fail
        refine P1.mono ?_
        rintro e w2 ⟨v2, rfl, s2, b2⟩
        rw [← HFj.out] at s2
        have HS2 : Hid (SlAt w2 wr.heap.size v2 (lessL (bkL x.insts F S m) ((F + j : Nat) : Int))) := s2
        have HB2 : Hid (Below wr.heap.size wr w2) := b2
        have f0 := (cell_block (b2.block bi hbi)).trans e0
        have f1 := (cell_block (b2.block bi hbi)).trans e1
        have f2 := (cell_block (b2.block bi hbi)).trans e2
        have f3 := (cell_block (b2.block bi hbi)).trans e3
        have f4 := (cell_block (b2.block bi hbi)).trans e4
        have f5 := (cell_block (b2.block bi hbi)).trans e5
        have f6 := (cell_block (b2.block bi hbi)).trans e6
        have z1 : w2.cell? ⟨w.heap.size + 1, 1, none⟩ = some (.slice (some ⟨bi, oi, none⟩) x.insts.length r1) := ((Ax.below b2).cell 1).trans rfl
        have P2 := operS lo y i0 j0 w2 his (HM6.out.keep (agree_of_below b2 lo))
        clear P1 s2 b2 e0 e1 e2 e3 e4 e5 e6 y1
        go_wp2_with fail
        refine P2.mono ?_
        rintro e w3 ⟨v3, r3, rfl, o3, b3⟩
        have P3 := sumV wr.heap.size w2.heap.size v2 _ v3 r3 (opsD y) w3 (by omega) (by omega) (HS2.out.below b3) o3.ints
        have HB3 : Hid (Below wr.heap.size wr w3) := HB2.out.trans (b3.mono HB2.out.size)
        clear P2 b3 o3 f0 f1 f2 f3 f4 f5 f6 z1
        go_wp2_with fail
        refine P3.mono ?_
        rintro e w4 ⟨v4, rfl, s4, b4⟩
        have HB4 : Hid (Below wr.heap.size wr w4) := HB3.out.trans (b4.mono HB3.out.size)
        have HS4 : Hid (SlAt w4 lz v4 (bkL x.insts F S (m + 1))) := by
          show SlAt _ _ _ _
          rw [HST.out]
          exact s4.low (by have := HB3.out.size; have := HB.out.size; have := HBX.out.size; omega)
        have HB5 : Hid (Below w9.heap.size w9 w4) := HB.out.trans (HB4.out.mono HB.out.size)
        clear s4 b4 P3
        go_wp2_with fail
        go_roundw
        case rel => exact ⟨m + 1, by omega, congrArg (Value.int .i64) (by have := HJ.out; push_cast; omega), HS4, HB5⟩
        case measure => simp [intOf]; omega
      · have hme : m = x.insts.length - fr := by omega
        have HS4 : Hid (SlAt wr lz u3 (bkL x.insts F S (x.insts.length - fr))) := by rw [← hme]; exact HX
        have hno : ¬ ((fr : Int) ≤ (x.insts.length : Int) - 1 - m) := by omega
        clear hme
        go_wp2_with fail
        go_ret
        exact ⟨_, rfl, HG.out _ _ HS4.out, HBX.out.trans (HB.out.mono HBX.out.size)⟩
  · rw [hT] at HFN HG hta
    rw [hk] at y2
    have P := putZ lz v s x.term.a w8 (by have := HBW.out.size; omega) (by omega) hv8
    have hFine1 := HFN.out 0 (by omega)
    go_wp2_with fail
    refine P.mono ?_
    rintro e w9 ⟨v9, rfl, s9, b9⟩
    have HS0 : Hid (SlAt w9 lz v9 (bkL x.insts F (sumL s [x.term.a]) 0)) := s9
    generalize sumL s [x.term.a] = S at *
    have HBX : Hid (Below w.heap.size w w9) := HBW.out.trans (b9.mono HBW.out.size)
    have HMX : Hid (InstsAt w9 lo v1 x.insts) := HM1.out.keep (agree_of_below b9 lo)
    have AX := A9.below b9
    clear P s9 b9 y2 y3 hv8 y1 HBW HM1 A9
    have y1 : w9.cell? ⟨w.heap.size + 1, 1, none⟩ = some (.slice v1 x.insts.length r1) := (AX.cell 1).trans rfl
    go_wp2_with fail
    go_loopw [3, 11] (fun st i wr => ∃ m : Nat, m ≤ x.insts.length - fr ∧ i = .int .i64 ((x.insts.length : Int) - 1 - m) ∧ Hid (SlAt wr lz st (bkL x.insts F S m)) ∧ Hid (Below w9.heap.size w9 wr)) (fun _ i _ => (intOf i + 1 - fr).toNat)
    case atStart => exact ⟨0, by omega, by simp, HS0, Below.refl _ _⟩
    case round =>
      obtain ⟨m, hm, rfl, HX, HB⟩ := hrel
      clear y1
      have Ax := AX.below HB.out
      have y1 : wr.cell? ⟨w.heap.size + 1, 1, none⟩ = some (.slice v1 x.insts.length r1) := (Ax.cell 1).trans rfl
      have hfin := HFN.out m (by omega)
      have hlen := hfin.len
      by_cases hlt : m < x.insts.length - fr
      · rcases (HMX.out.keep (agree_of_below HB.out lo)).2 with hz | ⟨bi, oi, rfl, hloi, hbi, hcell⟩
        · rw [hz] at hlt; simp at hlt
        obtain ⟨e0, e1, e2, e3, e4, e5, ⟨i0, j0, e6, m6⟩⟩ := hcell (x.insts.length - 1 - m) (by omega)
        have hmem := getD_mem inst0 x.insts (x.insts.length - 1 - m) (by omega)
        have his := HSI.out _ hmem
        have hops := HOP.out _ hmem
        have HST : Hid (bkL x.insts F S (m + 1) = sumL (lessL (bkL x.insts F S m) ((F + (x.insts.length - 1 - m) : Nat) : Int)) (opsD (x.insts.getD (x.insts.length - 1 - m) inst0))) := bk_step _ _ _
        have HJ : Hid ((x.insts.length : Int) - 1 - m = ((x.insts.length - 1 - m : Nat) : Int)) := by show _ = _; omega
        have hjl : x.insts.length - 1 - m < x.insts.length := by omega
        have hge : (fr : Int) ≤ ((x.insts.length - 1 - m : Nat) : Int) := by omega
        have hjb : x.insts.length - 1 - m ≤ 2000000 := by omega
        rw [HJ.out]
        generalize x.insts.length - 1 - m = j at *
        generalize x.insts.getD j inst0 = y at *
        have HM6 : Hid (IntsAt wr lo i0 y.args) := m6
        have P1 := lessV lz u3 (bkL x.insts F S m) ((F + j : Nat) : Int) wr (by omega) HX.out
        have hle2 : (lessL (bkL x.insts F S m) ((F + j : Nat) : Int)).length ≤ 60 := Nat.le_trans (List.length_filter_le _ _) (by omega)
        have HFj : Hid (((F + j : Nat) : Int) = (F : Int) + (j : Int)) := by show _ = _; push_cast; rfl
        rw [HFj.out] at P1
        clear hmem hcell m6
        go_wp2_with fail
        refine P1.mono ?_
        rintro e w2 ⟨v2, rfl, s2, b2⟩
        rw [← HFj.out] at s2
        have HS2 : Hid (SlAt w2 wr.heap.size v2 (lessL (bkL x.insts F S m) ((F + j : Nat) : Int))) := s2
        have HB2 : Hid (Below wr.heap.size wr w2) := b2
        have f0 := (cell_block (b2.block bi hbi)).trans e0
        have f1 := (cell_block (b2.block bi hbi)).trans e1
        have f2 := (cell_block (b2.block bi hbi)).trans e2
        have f3 := (cell_block (b2.block bi hbi)).trans e3
        have f4 := (cell_block (b2.block bi hbi)).trans e4
        have f5 := (cell_block (b2.block bi hbi)).trans e5
        have f6 := (cell_block (b2.block bi hbi)).trans e6
        have z1 : w2.cell? ⟨w.heap.size + 1, 1, none⟩ = some (.slice (some ⟨bi, oi, none⟩) x.insts.length r1) := ((Ax.below b2).cell 1).trans rfl
        have P2 := operS lo y i0 j0 w2 his (HM6.out.keep (agree_of_below b2 lo))
        clear P1 s2 b2 e0 e1 e2 e3 e4 e5 e6 y1
        go_wp2_with fail
        refine P2.mono ?_
        rintro e w3 ⟨v3, r3, rfl, o3, b3⟩
        have P3 := sumV wr.heap.size w2.heap.size v2 _ v3 r3 (opsD y) w3 (by omega) (by omega) (HS2.out.below b3) o3.ints
        have HB3 : Hid (Below wr.heap.size wr w3) := HB2.out.trans (b3.mono HB2.out.size)
        clear P2 b3 o3 f0 f1 f2 f3 f4 f5 f6 z1
        go_wp2_with fail
        refine P3.mono ?_
        rintro e w4 ⟨v4, rfl, s4, b4⟩
        have HB4 : Hid (Below wr.heap.size wr w4) := HB3.out.trans (b4.mono HB3.out.size)
        have HS4 : Hid (SlAt w4 lz v4 (bkL x.insts F S (m + 1))) := by
          show SlAt _ _ _ _
          rw [HST.out]
          exact s4.low (by have := HB3.out.size; have := HB.out.size; have := HBX.out.size; omega)
        have HB5 : Hid (Below w9.heap.size w9 w4) := HB.out.trans (HB4.out.mono HB.out.size)
        clear s4 b4 P3
        go_wp2_with fail
        go_roundw
        case rel => exact ⟨m + 1, by omega, congrArg (Value.int .i64) (by have := HJ.out; push_cast; omega), HS4, HB5⟩
        case measure => simp [intOf]; omega
      · have hme : m = x.insts.length - fr := by omega
        have HS4 : Hid (SlAt wr lz u3 (bkL x.insts F S (x.insts.length - fr))) := by rw [← hme]; exact HX
        have hno : ¬ ((fr : Int) ≤ (x.insts.length : Int) - 1 - m) := by omega
        clear hme
        go_wp2_with fail
        go_ret
        exact ⟨_, rfl, HG.out _ _ HS4.out, HBX.out.trans (HB.out.mono HBX.out.size)⟩
  · rw [hT] at HFN HG hta
    have n1 : (x.term.kind == 1) = false := by simpa using hk1
    have n3 : (x.term.kind == 3) = false := by simpa using hk3
    have HS0 : Hid (SlAt w8 lz v (bkL x.insts F (sumL s []) 0)) := hv8
    generalize sumL s [] = S at *
    have HBX := HBW
    have HMX := HM1
    have AX := A9
    clear HBW HM1 A9 hv8 y3
    go_wp2_with fail
    go_loopw [3, 11] (fun st i wr => ∃ m : Nat, m ≤ x.insts.length - fr ∧ i = .int .i64 ((x.insts.length : Int) - 1 - m) ∧ Hid (SlAt wr lz st (bkL x.insts F S m)) ∧ Hid (Below w8.heap.size w8 wr)) (fun _ i _ => (intOf i + 1 - fr).toNat)
    case atStart => exact ⟨0, by omega, by simp, HS0, Below.refl _ _⟩
    case round =>
      obtain ⟨m, hm, rfl, HX, HB⟩ := hrel
      clear y1
      have Ax := AX.below HB.out
      have y1 : wr.cell? ⟨w.heap.size + 1, 1, none⟩ = some (.slice v1 x.insts.length r1) := (Ax.cell 1).trans rfl
      have hfin := HFN.out m (by omega)
      have hlen := hfin.len
      by_cases hlt : m < x.insts.length - fr
      · rcases (HMX.out.keep (agree_of_below HB.out lo)).2 with hz | ⟨bi, oi, rfl, hloi, hbi, hcell⟩
        · rw [hz] at hlt; simp at hlt
        obtain ⟨e0, e1, e2, e3, e4, e5, ⟨i0, j0, e6, m6⟩⟩ := hcell (x.insts.length - 1 - m) (by omega)
        have hmem := getD_mem inst0 x.insts (x.insts.length - 1 - m) (by omega)
        have his := HSI.out _ hmem
        have hops := HOP.out _ hmem
        have HST : Hid (bkL x.insts F S (m + 1) = sumL (lessL (bkL x.insts F S m) ((F + (x.insts.length - 1 - m) : Nat) : Int)) (opsD (x.insts.getD (x.insts.length - 1 - m) inst0))) := bk_step _ _ _
        have HJ : Hid ((x.insts.length : Int) - 1 - m = ((x.insts.length - 1 - m : Nat) : Int)) := by show _ = _; omega
        have hjl : x.insts.length - 1 - m < x.insts.length := by omega
        have hge : (fr : Int) ≤ ((x.insts.length - 1 - m : Nat) : Int) := by omega
        have hjb : x.insts.length - 1 - m ≤ 2000000 := by omega
        rw [HJ.out]
        generalize x.insts.length - 1 - m = j at *
        generalize x.insts.getD j inst0 = y at *
        have HM6 : Hid (IntsAt wr lo i0 y.args) := m6
        have P1 := lessV lz u3 (bkL x.insts F S m) ((F + j : Nat) : Int) wr (by omega) HX.out
        have hle2 : (lessL (bkL x.insts F S m) ((F + j : Nat) : Int)).length ≤ 60 := Nat.le_trans (List.length_filter_le _ _) (by omega)
        have HFj : Hid (((F + j : Nat) : Int) = (F : Int) + (j : Int)) := by show _ = _; push_cast; rfl
        rw [HFj.out] at P1
        clear hmem hcell m6
        go_wp2_with fail
        refine P1.mono ?_
        rintro e w2 ⟨v2, rfl, s2, b2⟩
        rw [← HFj.out] at s2
        have HS2 : Hid (SlAt w2 wr.heap.size v2 (lessL (bkL x.insts F S m) ((F + j : Nat) : Int))) := s2
        have HB2 : Hid (Below wr.heap.size wr w2) := b2
        have f0 := (cell_block (b2.block bi hbi)).trans e0
        have f1 := (cell_block (b2.block bi hbi)).trans e1
        have f2 := (cell_block (b2.block bi hbi)).trans e2
        have f3 := (cell_block (b2.block bi hbi)).trans e3
        have f4 := (cell_block (b2.block bi hbi)).trans e4
        have f5 := (cell_block (b2.block bi hbi)).trans e5
        have f6 := (cell_block (b2.block bi hbi)).trans e6
        have z1 : w2.cell? ⟨w.heap.size + 1, 1, none⟩ = some (.slice (some ⟨bi, oi, none⟩) x.insts.length r1) := ((Ax.below b2).cell 1).trans rfl
        have P2 := operS lo y i0 j0 w2 his (HM6.out.keep (agree_of_below b2 lo))
        clear P1 s2 b2 e0 e1 e2 e3 e4 e5 e6 y1
        go_wp2_with fail
        refine P2.mono ?_
        rintro e w3 ⟨v3, r3, rfl, o3, b3⟩
        have P3 := sumV wr.heap.size w2.heap.size v2 _ v3 r3 (opsD y) w3 (by omega) (by omega) (HS2.out.below b3) o3.ints
        have HB3 : Hid (Below wr.heap.size wr w3) := HB2.out.trans (b3.mono HB2.out.size)
        clear P2 b3 o3 f0 f1 f2 f3 f4 f5 f6 z1
        go_wp2_with fail
        refine P3.mono ?_
        rintro e w4 ⟨v4, rfl, s4, b4⟩
        have HB4 : Hid (Below wr.heap.size wr w4) := HB3.out.trans (b4.mono HB3.out.size)
        have HS4 : Hid (SlAt w4 lz v4 (bkL x.insts F S (m + 1))) := by
          show SlAt _ _ _ _
          rw [HST.out]
          exact s4.low (by have := HB3.out.size; have := HB.out.size; have := HBX.out.size; omega)
        have HB5 : Hid (Below w8.heap.size w8 w4) := HB.out.trans (HB4.out.mono HB.out.size)
        clear s4 b4 P3
        go_wp2_with fail
        go_roundw
        case rel => exact ⟨m + 1, by omega, congrArg (Value.int .i64) (by have := HJ.out; push_cast; omega), HS4, HB5⟩
        case measure => simp [intOf]; omega
      · have hme : m = x.insts.length - fr := by omega
        have HS4 : Hid (SlAt wr lz u3 (bkL x.insts F S (x.insts.length - fr))) := by rw [← hme]; exact HX
        have hno : ¬ ((fr : Int) ≤ (x.insts.length : Int) - 1 - m) := by omega
        clear hme
        go_wp2_with fail
        go_ret
        exact ⟨_, rfl, HG.out _ _ HS4.out, HBX.out.trans (HB.out.mono HBX.out.size)⟩
end Go.Proofs.YtolaghondjfhdabGreatDoor
namespace Go.Proofs.YtolaghondjfhdabGreatDoor
open Go.RowKit
set_option linter.unusedVariables false

/-- The sets of all blocks in memory: their slices in block gi, their numbers from block lo on. -/
def InsAt (w : World) (gi lo n : Nat) (I : Alive) : Prop := gi < w.heap.size ∧ ∀ t, t < n → ∃ a c, w.cell? ⟨gi, t, none⟩ = some (.slice a (I t).length c) ∧ IntsAt w lo a (I t)
theorem InsAt.below {w w' : World} {gi lo n : Nat} {I : Alive} (h : InsAt w gi lo n I) (k : Below w.heap.size w w') : InsAt w' gi lo n I :=
  ⟨Nat.lt_of_lt_of_le h.1 k.size, fun t ht => by
    obtain ⟨a, c, h1, h2⟩ := h.2 t ht
    exact ⟨a, c, (cell_block (k.block gi h.1)).trans h1, h2.keep (agree_of_below k lo)⟩⟩
theorem out_snoc (d : FuncD) (b : Nat) (I : Alive) {k : Nat} (h : k < (succN d.blocks b).length) : ((succN d.blocks b).take (k + 1)).foldl (outStep d b I) [] = outStep d b I (((succN d.blocks b).take k).foldl (outStep d b I) []) ((succN d.blocks b).getD k 0) := by
  rw [List.take_succ_eq_append_getElem h, List.foldl_append]
  simp [List.getD, h]
theorem phis_snoc (k : Nat) (l : List PhiD) (s : List Int) {n : Nat} (h : n < l.length) : phisL k (l.take (n + 1)) s = ins (phisL k (l.take n) s) ((l.getD n phi0).ins.getD k 0) := by
  unfold phisL
  rw [List.take_succ_eq_append_getElem h, List.foldl_append]
  simp [List.getD, h]
theorem succ_get {l : List BlockD} (hR : RightL l) {b k : Nat} (hb : b < l.length) (hk : k < (succN l b).length) : (tgtD (termAt l b)).getD k 0 = (((succN l b).getD k 0 : Nat) : Int) := by
  rw [← ints_succ hR hb, ints_getD]
theorem succ_lenL (l : List BlockD) (b : Nat) : (succN l b).length = (tgtD (termAt l b)).length := by simp [succN]
/-- Told by the steps of a loop over phis. -/
theorem Fine.phisT {c k n : Nat} {l : List PhiD} (hl : ∀ p ∈ l, Rng c p.ins ∧ k < p.ins.length) {s : List Int} (h : Fine c s) : Fine c (phisL k (l.take n) s) := Fine.phis (fun p hp => hl p (List.mem_of_mem_take hp)) h
set_option maxHeartbeats 8000000 in
set_option maxRecDepth 100000 in
theorem outZ (lo : Nat) (d : FuncD) (u0 : Option Addr) (c0 : Nat) (u2 : Option Addr) (c2 : Nat) (b : Nat) (gi li ci : Nat) (I : Alive) (w : World) (hs : SmFunc d) (hF : LvF d) (hb : b < d.blocks.length) (hI : InsAt w gi li d.blocks.length I) (hIf : ∀ t, Fine (cntF d) (I t)) (k2 : BlocksAt w lo u2 d.blocks) :
    Calls Tryz.prog 53 #[.agg #[.slice u0 d.params.length c0, .int .i64 d.ret, .slice u2 d.blocks.length c2], .int .i64 b, .slice (some ⟨gi, 0, none⟩) d.blocks.length ci] w fun e w' => ∃ v, e = .returned v ∧ SlAt w' w.heap.size v (outL d b I) ∧ Below w.heap.size w w' := by
  have hc60 := hF.cnt
  have hR := hF.right
  have HF : Hid (LvF d) := hF
  have HK : Hid (BlocksAt w lo u2 d.blocks) := k2
  have HI : Hid (InsAt w gi li d.blocks.length I) := hI
  have HIF : Hid (∀ t, Fine (cntF d) (I t)) := hIf
  have HSM : Hid (SmFunc d) := hs
  have hbl : d.blocks.length ≤ 10 := hR.2.1
  have HRt : Hid (RightL d.blocks) := hR
  have hpar := hF.params
  clear hF hI hIf hs k2 hR
  have A0 := At.new w #[.slice u0 d.params.length c0, .int .i64 d.ret, .slice u2 d.blocks.length c2] 30
  have B0 : Below w.heap.size w (w.alloc (.cells #[.slice u0 d.params.length c0, .int .i64 d.ret, .slice u2 d.blocks.length c2] 30)) := (Below.refl _ _).alloc (Nat.le_refl _) _
  have B1 : Below w.heap.size w ((w.alloc (.cells #[.slice u0 d.params.length c0, .int .i64 d.ret, .slice u2 d.blocks.length c2] 30)).alloc (.cells #[] 2)) := B0.alloc (by simp) _
  have A1 : At ((w.alloc (.cells #[.slice u0 d.params.length c0, .int .i64 d.ret, .slice u2 d.blocks.length c2] 30)).alloc (.cells #[] 2)) w.heap.size #[.slice u0 d.params.length c0, .int .i64 d.ret, .slice u2 d.blocks.length c2] 30 := A0.below ((Below.refl _ _).alloc (Nat.le_refl _) _)
  go_enter Tryz.func53, Tryz.ntmps53
  go_wp2_with fail
  generalize ((w.alloc (.cells #[.slice u0 d.params.length c0, .int .i64 d.ret, .slice u2 d.blocks.length c2] 30)).alloc (.cells #[] 2)) = W at A1 B1 ⊢
  clear A0 B0
  refine (succsS lo d.blocks u0 d.params.length c0 d.ret u2 c2 b W (HK.out.keep (agree_of_below B1 lo)) hb).mono ?_
  rintro e w1 ⟨⟨gs, cs, rfl, is1⟩, b1⟩
  have A2 := A1.below b1
  have HB1 : Hid (Below w.heap.size w w1) := B1.trans (b1.mono B1.size)
  have HIS : Hid (IntsAt w1 W.heap.size (some ⟨gs, 0, none⟩) (tgtD (termAt d.blocks b))) := is1
  have hWz : w.heap.size ≤ W.heap.size := B1.size
  have hS0 : SlAt w1 w.heap.size (.slice (some ⟨w.heap.size + 1, 0, none⟩) 0 0) [] := ⟨w.heap.size + 1, 0, 0, rfl, Nat.le_refl _, by omega, ⟨by simp, .inl rfl⟩⟩
  clear b1 is1 B1 A1
  have HSL : Hid ((succN d.blocks b).length = (tgtD (termAt d.blocks b)).length) := succ_lenL d.blocks b
  have htl : (tgtD (termAt d.blocks b)).length ≤ 2 := tgt_len _
  have HIC : Hid (∀ V, Below w1.heap.size w1 V → ∀ k, k < (tgtD (termAt d.blocks b)).length → gs < V.heap.size ∧ V.cell? ⟨gs, k, none⟩ = some (.int .i64 ((tgtD (termAt d.blocks b)).getD k 0))) := fun V hV k hk => by
    rcases (HIS.out.keep (agree_of_below hV _)).2 with h | ⟨g, off, ha, _, hg, hc⟩
    · rw [h] at hk; simp at hk
    · cases ha
      have := hc k hk
      rw [Nat.zero_add] at this
      exact ⟨hg, this⟩
  clear HIS
  generalize (tgtD (termAt d.blocks b)).length = nT at *
  go_wp2_with fail
  go_loopw [7, 9] (fun st i wr => ∃ k : Nat, k ≤ nT ∧ i = .int .i64 k ∧ Hid (SlAt wr w.heap.size st (((succN d.blocks b).take k).foldl (outStep d b I) [])) ∧ Hid (Below w1.heap.size w1 wr)) (fun _ i _ => nT - (intOf i).toNat)
  case atStart => exact ⟨0, by omega, rfl, hS0, Below.refl _ _⟩
  case round =>
    obtain ⟨k, hk, rfl, HX, HB⟩ := hrel
    obtain ⟨wo, hwo⟩ : ∃ wo, wo = wr := ⟨_, rfl⟩
    subst hwo
    by_cases hlN : k < nT
    · have hlt : k < (succN d.blocks b).length := by rw [HSL.out]; exact hlN
      have hSf : Fine (cntF d) (((succN d.blocks b).take k).foldl (outStep d b I) []) := HF.out.outs hb HIF.out _ (fun t ht => List.mem_of_mem_take ht) (Fine.nil _)
      have htm : (succN d.blocks b).getD k 0 ∈ succN d.blocks b := getD_mem 0 _ k hlt
      have htn := succ_ltL HRt.out hb _ htm
      have HSN : Hid (((succN d.blocks b).take (k + 1)).foldl (outStep d b I) [] = outStep d b I (((succN d.blocks b).take k).foldl (outStep d b I) []) ((succN d.blocks b).getD k 0)) := out_snoc d b I hlt
      obtain ⟨gsl, e1⟩ := HIC.out wo HB.out k hlN
      rw [succ_get HRt.out hb hlt] at e1
      have hatl := atN_lt HRt.out hb htm
      have hmp := mem_predL HRt.out hb htm
      generalize hLs : ((succN d.blocks b).take k).foldl (outStep d b I) [] = Ls at *
      generalize (succN d.blocks b).getD k 0 = t at *
      clear hLs hlt
      have HBw : Hid (Below w.heap.size w wo) := HB1.out.trans (HB.out.mono HB1.out.size)
      have HIw := HI.out.below HBw.out
      obtain ⟨a2, q2, e2, m2⟩ := HIw.2 t htn
      have hIl := (HIF.out t).len
      have hsl2 := hSf.len
      have P1 := sumV w.heap.size li u7 Ls a2 q2 (I t) wo (by omega) (by omega) HX.out m2
      have Ao := A2.below HB.out
      go_wp2_with fail
      refine P1.mono ?_
      rintro e w2 ⟨v2, rfl, s2, b2⟩
      have HS2 : Hid (SlAt w2 wo.heap.size v2 (sumL Ls (I t))) := s2
      have hsf2 : Fine (cntF d) (sumL Ls (I t)) := hSf.sum (HIF.out t).2
      have HB2 : Hid (Below wo.heap.size wo w2) := b2
      have A22 := Ao.below b2
      have e1' := (cell_block (b2.block gs gsl)).trans e1
      have hgs2 : gs < w2.heap.size := Nat.lt_of_lt_of_le gsl b2.size
      clear P1 s2 b2 e1 e2 m2 HIw
      go_wp2_with fail
      have PR := fun V (h : Below w2.heap.size w2 V) => l3predsS lo d u0 c0 u2 c2 t V HRt.out (HK.out.keep (agree_of_below ((HBw.out.trans (HB2.out.mono HBw.out.size)).trans (h.mono (Nat.le_trans HBw.out.size HB2.out.size))) lo))
      have l2 := A22.lt
      refine wp_region_held_drew (S := fun w' => Below w2.heap.size w2 w') (by kernel_rfl) ((Below.refl _ _).drew) (fun hHeld => ?_)
      refine wpAnyH_take (i := 0) (v := ?_) rfl (by kernel_rfl) (by kernel_rfl) (by kernel_rfl) (fun _ _ _ h => h) (Or.inl ⟨by rfl, ?_⟩) hHeld ?_
      rotate_left
      · intro w9 hS9
        have g0 := (bcell hS9 w.heap.size 0 l2).trans ((A22.cell 0).trans rfl)
        have g1 := (bcell hS9 w.heap.size 1 l2).trans ((A22.cell 1).trans rfl)
        have g2 := (bcell hS9 w.heap.size 2 l2).trans ((A22.cell 2).trans rfl)
        go_simp
        try with_reducible rfl
      show wpAnyH _ _ _ _ _ _ _ (Act.put _ (some _) _) _
      simp only [Act.put, List.setIfInBounds_toArray, List.set_cons_zero, List.set_cons_succ]
      refine wpAnyH_take (i := 1) (v := ?_) rfl (by kernel_rfl) (by kernel_rfl) (by kernel_rfl) (fun _ _ _ h => h) (Or.inl ⟨by rfl, ?_⟩) hHeld ?_
      rotate_left
      · intro w9 hS9
        go_simp
        try with_reducible rfl
      show wpAnyH _ _ _ _ _ _ _ (Act.put _ (some _) _) _
      simp only [Act.put, List.setIfInBounds_toArray, List.set_cons_zero, List.set_cons_succ]
      refine wpAnyH_take (i := 2) (v := ?_) rfl (by kernel_rfl) (by kernel_rfl) (by kernel_rfl) (fun _ _ _ h => h) (Or.inl ⟨by rfl, ?_⟩) hHeld ?_
      rotate_left
      · intro w9 hS9
        go_simp
        try with_reducible rfl
      show wpAnyH _ _ _ _ _ _ _ (Act.put _ (some _) _) _
      simp only [Act.put, List.setIfInBounds_toArray, List.set_cons_zero, List.set_cons_succ]
      refine wpAnyH_take (i := 3) (v := ?_) rfl (by kernel_rfl) (by kernel_rfl) (by kernel_rfl) (fun _ _ _ h => h) (Or.inl ⟨by rfl, ?_⟩) hHeld ?_
      rotate_left
      · intro w9 hS9
        go_simp
        try with_reducible rfl
      show wpAnyH _ _ _ _ _ _ _ (Act.put _ (some _) _) _
      simp only [Act.put, List.setIfInBounds_toArray, List.set_cons_zero, List.set_cons_succ]
      refine wpAnyH_take (i := 4) (v := ?_) rfl (by kernel_rfl) (by kernel_rfl) (by kernel_rfl) (fun _ _ _ h => h) (Or.inl ⟨by rfl, ?_⟩) hHeld ?_
      rotate_left
      · intro w9 hS9
        have g0 := (bcell hS9 gs _ hgs2).trans e1'
        go_simp
        try with_reducible rfl
      show wpAnyH _ _ _ _ _ _ _ (Act.put _ (some _) _) _
      simp only [Act.put, List.setIfInBounds_toArray, List.set_cons_zero, List.set_cons_succ]
      refine wpAnyH_take (i := 6) (v := ?_) rfl (by kernel_rfl) (by kernel_rfl) (by kernel_rfl) (fun _ _ _ h => h) (Or.inl ⟨by rfl, ?_⟩) hHeld ?_
      rotate_left
      · intro w9 hS9
        go_simp
        try with_reducible rfl
      show wpAnyH _ _ _ _ _ _ _ (Act.put _ (some _) _) _
      simp only [Act.put, List.setIfInBounds_toArray, List.set_cons_zero, List.set_cons_succ]
      refine wpAnyH_ready (rs := [5]) (by kernel_rfl) (by simp) ?_
      refine AllReadyH.cons rfl (fun K hK => ?_) AllReadyH.nil
      go_simp
      go_wp2_with (go_at_call 51; refine (PR _ hHeld).mono ?_; rintro e v3 ⟨vp, rfl, op, bb⟩; have bc := hHeld.trans (bb.mono hHeld.size))
      refine hK.out _ _ ?_ (fun hHeld2 => ?_)
      · exact bc
      clear hK K
      have hPrev := hHeld
      clear hHeld
      have hHeld := hHeld2
      clear hHeld2 bc
      try simp only [Act.put, List.setIfInBounds_toArray, List.set_cons_zero, List.set_cons_succ]
      obtain ⟨up, cp, rfl, ow⟩ := ints_own (by rw [ints_len]) (by rw [ints_len]; have := pred_len (S := succN d.blocks) (n := d.blocks.length) (x := t); omega) op
      have hprl : (predL d t).length ≤ 10 := by have := pred_len (S := succN d.blocks) (n := d.blocks.length) (x := t); unfold predL; rw [ints_len]; omega
      have LA := fun V (h : Below v3.heap.size v3 V) => l12atS _ up cp (predL d t) (b : Int) V (by omega) ((show IntsAt v3 _ up (predL d t) from ow.ints).keep (agree_of_below h _)) hmp
      have hHv : Below v3.heap.size v3 v3 := Below.refl _ _
      refine wpAnyH_ready (rs := [7]) (by kernel_rfl) (by simp) ?_
      refine AllReadyH.cons rfl (fun K hK => ?_) AllReadyH.nil
      go_simp
      go_wp2_with (go_at_call 81; refine (LA _ hHv).mono ?_; rintro e v4 ⟨rfl, b4⟩; have bc := hHeld.trans (b4.mono hHeld.size))
      refine hK.out _ _ ?_ (fun hHeld2 => ?_)
      · exact bc
      clear hK K
      clear hHeld
      have hHeld := hHeld2
      clear hHeld2 bc
      try simp only [Act.put, List.setIfInBounds_toArray, List.set_cons_zero, List.set_cons_succ]
      refine wpAnyH_take (i := 8) (v := ?_) rfl (by kernel_rfl) (by kernel_rfl) (by kernel_rfl) (fun _ _ _ h => h) (Or.inl ⟨by rfl, ?_⟩) hHeld ?_
      rotate_left
      · intro w9 hS9
        go_simp
        try with_reducible rfl
      show wpAnyH _ _ _ _ _ _ _ (Act.put _ (some _) _) _
      simp only [Act.put, List.setIfInBounds_toArray, List.set_cons_zero, List.set_cons_succ]
      refine wpAnyH_done (by kernel_rfl) ?_ _
      have HBv : Hid (Below w2.heap.size w2 v4) := hHeld
      have A4 := A22.below hHeld
      have e14 := (cell_block (hHeld.block gs hgs2)).trans e1'
      have hgs4 : gs < v4.heap.size := Nat.lt_of_lt_of_le hgs2 hHeld.size
      have HS4 : Hid (SlAt v4 wo.heap.size v2 (sumL Ls (I t))) := HS2.out.below hHeld
      have HK4 : Hid (BlocksAt v4 lo u2 d.blocks) := HK.out.keep (agree_of_below ((HBw.out.trans (HB2.out.mono HBw.out.size)).trans (hHeld.mono (Nat.le_trans HBw.out.size HB2.out.size))) lo)
      clear hHeld LA op ow PR hPrev e1' A22 l2 hgs2
      obtain ⟨g2, o2, rfl, hl2, hg2, ⟨pv, pc, p0, pm⟩, _⟩ := blk_cell HK4.out htn
      have HPM : Hid (PhisAt v4 lo pv (blkN d t).phis) := pm
      have HPH : Hid (∀ p ∈ (blkN d t).phis, Rng (cntF d) p.ins ∧ atN d t b < p.ins.length) := fun p hp => by
        obtain ⟨h1, h2⟩ := HF.out.phis t htn p hp
        exact ⟨h1, by rw [h2]; exact hatl⟩
      have hpn : (blkN d t).phis.length ≤ 1048576 := (HSM.out.2.2 _ (getD_mem block0 d.blocks t htn)).1.1
      have HOS : Hid (phisL (atN d t b) (blkN d t).phis (sumL Ls (I t)) = outStep d b I Ls t) := rfl
      have hat10 : atN d t b ≤ 10 := by omega
      have hAt : ((predL d t).findIdx (fun x => x == (b : Int))) = atN d t b := rfl
      rw [hAt]
      clear hAt pm
      generalize atN d t b = ka at *
      generalize (blkN d t).phis = ph at *
      generalize sumL Ls (I t) = S1 at *
      go_wp2_with fail
      go_loopw [7, 11] (fun st i wr => ∃ n : Nat, n ≤ ph.length ∧ i = .int .i64 n ∧ Hid (SlAt wr wo.heap.size st (phisL ka (ph.take n) S1)) ∧ Hid (Below v4.heap.size v4 wr)) (fun _ i _ => ph.length - (intOf i).toNat)
      case atStart => exact ⟨0, by omega, rfl, HS4, Below.refl _ _⟩
      case round =>
        obtain ⟨n, hn, rfl, HXp, HBp⟩ := hrel
        obtain ⟨wp, hwp⟩ : ∃ wp, wp = wr := ⟨_, rfl⟩
        subst hwp
        have x2 : wp.cell? ⟨w.heap.size, 2, none⟩ = some (.slice (some ⟨g2, o2, none⟩) d.blocks.length c2) := ((A4.below HBp.out).cell 2).trans rfl
        have x1 := (cell_block (HBp.out.block gs hgs4)).trans e14
        have x0 := (cell_block (HBp.out.block g2 hg2)).trans p0
        have lw := (A4.below HBp.out).lt
        have hfn : Fine (cntF d) (phisL ka (ph.take n) S1) := Fine.phisT HPH.out hsf2
        have hfl := hfn.len
        go_wp2_with fail
        go_quiet (fail)
        by_cases hnl : n < ph.length
        · rcases (HPM.out.keep (agree_of_below HBp.out lo)).2 with hz | ⟨bp, op, rfl, hlop, hbp, hcell⟩
          · rw [hz] at hnl; simp at hnl
          obtain ⟨e0, ⟨i0, j0, e1, m1⟩⟩ := hcell n hnl
          have hpb := HPH.out _ (getD_mem phi0 ph n hnl)
          have HSNp : Hid (phisL ka (ph.take (n + 1)) S1 = ins (phisL ka (ph.take n) S1) ((ph.getD n phi0).ins.getD ka 0)) := phis_snoc ka ph S1 hnl
          generalize ph.getD n phi0 = y at *
          obtain ⟨bq, oq, rfl, e3⟩ : ∃ bq oq, i0 = some ⟨bq, oq, none⟩ ∧ bq < wp.heap.size ∧ wp.cell? ⟨bq, oq + ka, none⟩ = some (.int .i64 (y.ins.getD ka 0)) := by
            rcases m1.2 with h | ⟨bq, oq, ha, _, hq, hc⟩
            · rw [h] at hpb; simp at hpb
            · exact ⟨bq, oq, ha, hq, hc ka hpb.2⟩
          obtain ⟨hbq, e3⟩ := e3
          have hka := hpb.2
          generalize y.ins.getD ka 0 = z at *
          have hD : Below wp.heap.size wp (wp.drewN nq) := below_drewN (Below.refl _ _) nq
          generalize wp.drewN nq = wq at hD ⊢
          have hzq := hD.size
          have PZ := fun V (h : Below wq.heap.size wq V) => putZ wo.heap.size u7 (phisL ka (ph.take n) S1) z V (by have := h.size; have := HBp.out.size; have := HBv.out.size; have := HB2.out.size; omega) (by omega) ((HXp.out.below hD).below h)
          go_wp2_with fail
          have q2 := (cell_block (hD.block w.heap.size lw)).trans x2
          have q1 := (cell_block (hD.block gs (by have := HBp.out.size; omega))).trans x1
          have q0 := (cell_block (hD.block g2 (by have := HBp.out.size; omega))).trans x0
          have q3 := (cell_block (hD.block bp hbp)).trans e1
          have q4 := (cell_block (hD.block bq hbq)).trans e3
          have k2 : w.heap.size < wq.heap.size := by omega
          have k1 : gs < wq.heap.size := by have := HBp.out.size; omega
          have k0 : g2 < wq.heap.size := by have := HBp.out.size; omega
          have k3 : bp < wq.heap.size := by omega
          have k4 : bq < wq.heap.size := by omega
          clear x0 x1 x2 e0 e1 e3 m1
          refine wp_region_held_drew (S := fun w' => Below wq.heap.size wq w') (by kernel_rfl) ((Below.refl _ _).drew) (fun hHeld => ?_)
          refine wpAnyH_take (i := 0) (v := ?_) rfl (by kernel_rfl) (by kernel_rfl) (by kernel_rfl) (fun _ _ _ h => h) (Or.inl ⟨by rfl, ?_⟩) hHeld ?_
          rotate_left
          · intro w9 hS9
            go_simp
            try with_reducible rfl
          show wpAnyH _ _ _ _ _ _ _ (Act.put _ (some _) _) _
          simp only [Act.put, List.setIfInBounds_toArray, List.set_cons_zero, List.set_cons_succ]
          refine wpAnyH_take (i := 1) (v := ?_) rfl (by kernel_rfl) (by kernel_rfl) (by kernel_rfl) (fun _ _ _ h => h) (Or.inl ⟨by rfl, ?_⟩) hHeld ?_
          rotate_left
          · intro w9 hS9
            go_simp
            try with_reducible rfl
          show wpAnyH _ _ _ _ _ _ _ (Act.put _ (some _) _) _
          simp only [Act.put, List.setIfInBounds_toArray, List.set_cons_zero, List.set_cons_succ]
          refine wpAnyH_take (i := 2) (v := ?_) rfl (by kernel_rfl) (by kernel_rfl) (by kernel_rfl) (fun _ _ _ h => h) (Or.inl ⟨by rfl, ?_⟩) hHeld ?_
          rotate_left
          · intro w9 hS9
            have g0 := (bcell hS9 w.heap.size 2 k2).trans q2
            go_simp
            try with_reducible rfl
          show wpAnyH _ _ _ _ _ _ _ (Act.put _ (some _) _) _
          simp only [Act.put, List.setIfInBounds_toArray, List.set_cons_zero, List.set_cons_succ]
          refine wpAnyH_take (i := 3) (v := ?_) rfl (by kernel_rfl) (by kernel_rfl) (by kernel_rfl) (fun _ _ _ h => h) (Or.inl ⟨by rfl, ?_⟩) hHeld ?_
          rotate_left
          · intro w9 hS9
            go_simp
            try with_reducible rfl
          show wpAnyH _ _ _ _ _ _ _ (Act.put _ (some _) _) _
          simp only [Act.put, List.setIfInBounds_toArray, List.set_cons_zero, List.set_cons_succ]
          refine wpAnyH_take (i := 4) (v := ?_) rfl (by kernel_rfl) (by kernel_rfl) (by kernel_rfl) (fun _ _ _ h => h) (Or.inl ⟨by rfl, ?_⟩) hHeld ?_
          rotate_left
          · intro w9 hS9
            go_simp
            try with_reducible rfl
          show wpAnyH _ _ _ _ _ _ _ (Act.put _ (some _) _) _
          simp only [Act.put, List.setIfInBounds_toArray, List.set_cons_zero, List.set_cons_succ]
          refine wpAnyH_take (i := 5) (v := ?_) rfl (by kernel_rfl) (by kernel_rfl) (by kernel_rfl) (fun _ _ _ h => h) (Or.inl ⟨by rfl, ?_⟩) hHeld ?_
          rotate_left
          · intro w9 hS9
            go_simp
            try with_reducible rfl
          show wpAnyH _ _ _ _ _ _ _ (Act.put _ (some _) _) _
          simp only [Act.put, List.setIfInBounds_toArray, List.set_cons_zero, List.set_cons_succ]
          refine wpAnyH_take (i := 6) (v := ?_) rfl (by kernel_rfl) (by kernel_rfl) (by kernel_rfl) (fun _ _ _ h => h) (Or.inl ⟨by rfl, ?_⟩) hHeld ?_
          rotate_left
          · intro w9 hS9
            have g0 := (bcell hS9 gs _ k1).trans q1
            go_simp
            try with_reducible rfl
          show wpAnyH _ _ _ _ _ _ _ (Act.put _ (some _) _) _
          simp only [Act.put, List.setIfInBounds_toArray, List.set_cons_zero, List.set_cons_succ]
          refine wpAnyH_take (i := 7) (v := ?_) rfl (by kernel_rfl) (by kernel_rfl) (by kernel_rfl) (fun _ _ _ h => h) (Or.inl ⟨by rfl, ?_⟩) hHeld ?_
          rotate_left
          · intro w9 hS9
            go_simp
            try with_reducible rfl
          show wpAnyH _ _ _ _ _ _ _ (Act.put _ (some _) _) _
          simp only [Act.put, List.setIfInBounds_toArray, List.set_cons_zero, List.set_cons_succ]
          refine wpAnyH_take (i := 8) (v := ?_) rfl (by kernel_rfl) (by kernel_rfl) (by kernel_rfl) (fun _ _ _ h => h) (Or.inl ⟨by rfl, ?_⟩) hHeld ?_
          rotate_left
          · intro w9 hS9
            go_simp
            try with_reducible rfl
          show wpAnyH _ _ _ _ _ _ _ (Act.put _ (some _) _) _
          simp only [Act.put, List.setIfInBounds_toArray, List.set_cons_zero, List.set_cons_succ]
          refine wpAnyH_take (i := 9) (v := ?_) rfl (by kernel_rfl) (by kernel_rfl) (by kernel_rfl) (fun _ _ _ h => h) (Or.inl ⟨by rfl, ?_⟩) hHeld ?_
          rotate_left
          · intro w9 hS9
            have g0 := (bcell hS9 g2 _ k0).trans q0
            go_simp
            try with_reducible rfl
          show wpAnyH _ _ _ _ _ _ _ (Act.put _ (some _) _) _
          simp only [Act.put, List.setIfInBounds_toArray, List.set_cons_zero, List.set_cons_succ]
          refine wpAnyH_take (i := 10) (v := ?_) rfl (by kernel_rfl) (by kernel_rfl) (by kernel_rfl) (fun _ _ _ h => h) (Or.inl ⟨by rfl, ?_⟩) hHeld ?_
          rotate_left
          · intro w9 hS9
            go_simp
            try with_reducible rfl
          show wpAnyH _ _ _ _ _ _ _ (Act.put _ (some _) _) _
          simp only [Act.put, List.setIfInBounds_toArray, List.set_cons_zero, List.set_cons_succ]
          refine wpAnyH_take (i := 11) (v := ?_) rfl (by kernel_rfl) (by kernel_rfl) (by kernel_rfl) (fun _ _ _ h => h) (Or.inl ⟨by rfl, ?_⟩) hHeld ?_
          rotate_left
          · intro w9 hS9
            go_simp
            try with_reducible rfl
          show wpAnyH _ _ _ _ _ _ _ (Act.put _ (some _) _) _
          simp only [Act.put, List.setIfInBounds_toArray, List.set_cons_zero, List.set_cons_succ]
          refine wpAnyH_take (i := 12) (v := ?_) rfl (by kernel_rfl) (by kernel_rfl) (by kernel_rfl) (fun _ _ _ h => h) (Or.inl ⟨by rfl, ?_⟩) hHeld ?_
          rotate_left
          · intro w9 hS9
            go_simp
            try with_reducible rfl
          show wpAnyH _ _ _ _ _ _ _ (Act.put _ (some _) _) _
          simp only [Act.put, List.setIfInBounds_toArray, List.set_cons_zero, List.set_cons_succ]
          refine wpAnyH_take (i := 13) (v := ?_) rfl (by kernel_rfl) (by kernel_rfl) (by kernel_rfl) (fun _ _ _ h => h) (Or.inl ⟨by rfl, ?_⟩) hHeld ?_
          rotate_left
          · intro w9 hS9
            have g0 := (bcell hS9 bp _ k3).trans q3
            go_simp
            try with_reducible rfl
          show wpAnyH _ _ _ _ _ _ _ (Act.put _ (some _) _) _
          simp only [Act.put, List.setIfInBounds_toArray, List.set_cons_zero, List.set_cons_succ]
          refine wpAnyH_take (i := 14) (v := ?_) rfl (by kernel_rfl) (by kernel_rfl) (by kernel_rfl) (fun _ _ _ h => h) (Or.inl ⟨by rfl, ?_⟩) hHeld ?_
          rotate_left
          · intro w9 hS9
            go_simp
            try with_reducible rfl
          show wpAnyH _ _ _ _ _ _ _ (Act.put _ (some _) _) _
          simp only [Act.put, List.setIfInBounds_toArray, List.set_cons_zero, List.set_cons_succ]
          refine wpAnyH_take (i := 15) (v := ?_) rfl (by kernel_rfl) (by kernel_rfl) (by kernel_rfl) (fun _ _ _ h => h) (Or.inl ⟨by rfl, ?_⟩) hHeld ?_
          rotate_left
          · intro w9 hS9
            go_simp
            try with_reducible rfl
          show wpAnyH _ _ _ _ _ _ _ (Act.put _ (some _) _) _
          simp only [Act.put, List.setIfInBounds_toArray, List.set_cons_zero, List.set_cons_succ]
          refine wpAnyH_take (i := 16) (v := ?_) rfl (by kernel_rfl) (by kernel_rfl) (by kernel_rfl) (fun _ _ _ h => h) (Or.inl ⟨by rfl, ?_⟩) hHeld ?_
          rotate_left
          · intro w9 hS9
            have g0 := (bcell hS9 bq _ k4).trans q4
            go_simp
            try with_reducible rfl
          show wpAnyH _ _ _ _ _ _ _ (Act.put _ (some _) _) _
          simp only [Act.put, List.setIfInBounds_toArray, List.set_cons_zero, List.set_cons_succ]
          refine wpAnyH_ready (rs := [17]) (by kernel_rfl) (by simp) ?_
          refine AllReadyH.cons rfl (fun K hK => ?_) AllReadyH.nil
          go_simp
          go_wp2_with (go_at_call 32; refine (PZ _ hHeld).mono ?_; rintro e v6 ⟨vz, rfl, sz, bb⟩; have bc := hHeld.trans (bb.mono hHeld.size))
          refine hK.out _ _ ?_ (fun hHeld2 => ?_)
          · exact bc
          clear hK K
          have hPrev := hHeld
          clear hHeld
          have hHeld := hHeld2
          clear hHeld2 bc
          try simp only [Act.put, List.setIfInBounds_toArray, List.set_cons_zero, List.set_cons_succ]
          refine wpAnyH_take (i := 18) (v := ?_) rfl (by kernel_rfl) (by kernel_rfl) (by kernel_rfl) (fun _ _ _ h => h) (Or.inl ⟨by rfl, ?_⟩) hHeld ?_
          rotate_left
          · intro w9 hS9
            go_simp
            try with_reducible rfl
          show wpAnyH _ _ _ _ _ _ _ (Act.put _ (some _) _) _
          simp only [Act.put, List.setIfInBounds_toArray, List.set_cons_zero, List.set_cons_succ]
          refine wpAnyH_done (by kernel_rfl) ?_ _
          have HSZ : Hid (SlAt v6 wo.heap.size vz (phisL ka (ph.take (n + 1)) S1)) := by show SlAt _ _ _ _; rw [HSNp.out]; exact sz
          have HBZ : Hid (Below v4.heap.size v4 v6) := (HBp.out.trans (hD.mono HBp.out.size)).trans (hHeld.mono (by have := HBp.out.size; omega))
          clear hHeld hPrev sz bb PZ
          go_wp2_with fail
          go_roundw
          case rel => exact ⟨n + 1, by omega, by go_num, HSZ, HBZ⟩
          case measure => simp [intOf]; omega
        · have HSE : Hid (SlAt wp w.heap.size u7 (((succN d.blocks b).take (k + 1)).foldl (outStep d b I) [])) := by
            show SlAt _ _ _ _
            have := HXp.out
            rw [List.take_of_length_le (by omega), HOS.out, ← HSN.out] at this
            exact this.low (by have := HBw.out.size; omega)
          have HBE : Hid (Below w1.heap.size w1 (wp.drewN nq)) := (((HB.out.trans (HB2.out.mono HB.out.size)).trans (HBv.out.mono (Nat.le_trans HB.out.size HB2.out.size))).trans (HBp.out.mono (by have := HB.out.size; have := HB2.out.size; have := HBv.out.size; omega))).trans ((below_drewN (Below.refl _ _) nq).mono (by have := HB.out.size; have := HB2.out.size; have := HBv.out.size; have := HBp.out.size; omega))
          go_wp2_with fail
          go_roundw
          case rel => exact ⟨k + 1, by omega, by go_num, HSE.out.below (below_drewN (Below.refl _ _) nq), HBE⟩
          case measure => simp [intOf]; omega
    · have HS4 : Hid (SlAt wo w.heap.size u7 (outL d b I)) := by
        have := HX.out
        rw [List.take_of_length_le (by rw [HSL.out]; omega)] at this
        exact this
      go_wp2_with fail
      go_ret
      exact ⟨_, rfl, HS4.out, HB1.out.trans (HB.out.mono HB1.out.size)⟩
end Go.Proofs.YtolaghondjfhdabGreatDoor
