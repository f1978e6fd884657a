import Derived.Test.YtenbodghkpbghaaDoorXhoSv
import Derived.Test.YtenbodghkpbghaaDoorSbESv
import Derived.Test.YtenbodghkpbghaaDoorFmJSv
import Derived.Test.YtenbodghkpbghaaDoorOps3Sv
import Derived.Test.YtenbodghkpbghaaDoorTeASv
import Derived.Test.YtenbodghkpbghaaDoorRdrSv
import Derived.BigRegion
import Derived.Test.YtenbodghkpbghaaDoorRows
import Derived.RowKitTokens
import Derived.LaidLaws
import Derived.LaidHandle
import Derived.LaidMore
import Derived.Stop.LaidErr
import Derived.Stop.ErrReads
import Derived.Stop.Joined
import Derived.Lay
namespace Go.Proofs.YtenbodghkpbghaaDoor
open Go.RowKit Go.Deep
set_option linter.unusedVariables false
set_option linter.unusedSimpArgs false
structure FA (lo : Nat) (W : World) (T : Nat) (d : FuncD) (up ub : Option Addr) (cp cb : Nat) : Prop where
 bx : At W T #[.slice up d.params.length cp, .int .i64 d.ret, .slice ub d.blocks.length cb] 27
 ip : IntsAt W lo up d.params
 bl : BlocksAt W lo ub d.blocks
theorem FA.keep {lo T : Nat} {W W' : World} {d : FuncD} {up ub : Option Addr} {cp cb : Nat} (h : FA lo W T d up ub cp cb) (k : Below W.heap.size W W') : FA lo W' T d up ub cp cb :=
 ⟨h.bx.below k, h.ip.keep (agree_of_below k _), h.bl.keep (agree_of_below k _)⟩
theorem FA.drew {lo T : Nat} {W : World} {d : FuncD} {up ub : Option Addr} {cp cb : Nat} (h : FA lo W T d up ub cp cb) : FA lo W.drew T d up ub cp cb := h.keep (Below.refl _ _).drew
theorem FA.new {lo : Nat} {W : World} {d : FuncD} {up ub : Option Addr} {cp cb : Nat} (h : IntsAt W lo up d.params) (k : BlocksAt W lo ub d.blocks) : FA lo (W.alloc (.cells #[.slice up d.params.length cp, .int .i64 d.ret, .slice ub d.blocks.length cb] 27)) W.heap.size d up ub cp cb :=
 ⟨At.new _ _ _, h.keep (agree_of_below ((Below.refl _ _).alloc (Nat.le_refl _) _) _), k.keep (agree_of_below ((Below.refl _ _).alloc (Nat.le_refl _) _) _)⟩
theorem below_new (W : World) (o : Obj) : Below W.heap.size W (W.alloc o) := (Below.refl _ _).alloc (Nat.le_refl _) _
theorem ints_cellU {w : World} {lo : Nat} {u : Option Addr} {l : List Int} (h : IntsAt w lo u l) {k : Nat} (hk : k < l.length) : ∃ b off, u = some ⟨b, off, none⟩ ∧ b < w.heap.size ∧ w.cell? ⟨b, off + k, none⟩ = some (.int .i64 (l.getD k 0)) := by
 rcases h.2 with e | ⟨b, off, hu, _, hb, hc⟩
 ·rw [e] at hk; cases hk
 ·exact ⟨b, off, hu, hb, hc k hk⟩
theorem inst_cellsU {w : World} {lo : Nat} {ub : Option Addr} {l : List BlockD} (h : BlocksAt w lo ub l) {b j : Nat} (hb : b < l.length) (hj : j < (l.getD b block0).insts.length) :
  ∃ bb bo up pc ib io ic au ac, ub = some ⟨bb, bo, none⟩ ∧ w.cell? ⟨bb, bo + b * 6, none⟩ = some (.slice up (l.getD b block0).phis.length pc) ∧ w.cell? ⟨bb, bo + b * 6 + 1, none⟩ = some (.slice (some ⟨ib, io, none⟩) (l.getD b block0).insts.length ic) ∧
   w.cell? ⟨ib, io + j * 7, none⟩ = some (.int .i64 ((l.getD b block0).insts.getD j inst0).op) ∧ w.cell? ⟨ib, io + j * 7 + 1, none⟩ = some (.int .i64 ((l.getD b block0).insts.getD j inst0).w) ∧ w.cell? ⟨ib, io + j * 7 + 2, none⟩ = some (.int .i64 ((l.getD b block0).insts.getD j inst0).a) ∧ w.cell? ⟨ib, io + j * 7 + 3, none⟩ = some (.int .i64 ((l.getD b block0).insts.getD j inst0).b) ∧ w.cell? ⟨ib, io + j * 7 + 4, none⟩ = some (.int .i64 ((l.getD b block0).insts.getD j inst0).c) ∧ w.cell? ⟨ib, io + j * 7 + 5, none⟩ = some (.int .i64 ((l.getD b block0).insts.getD j inst0).imm) ∧ w.cell? ⟨ib, io + j * 7 + 6, none⟩ = some (.slice au ((l.getD b block0).insts.getD j inst0).args.length ac) ∧ IntsAt w lo au ((l.getD b block0).insts.getD j inst0).args := by
 rcases h.2 with e | ⟨bb, bo, rfl, _, hbb, hc⟩
 ·rw [e] at hb; simp at hb
 ·obtain ⟨⟨up, pc, h1, _⟩, ⟨iu, ic, h2, hI⟩, _⟩ := hc b hb
  rcases hI.2 with e | ⟨ib, io, rfl, _, hib, hi⟩
  ·rw [e] at hj; simp at hj
  ·obtain ⟨i0, i1, i2, i3, i4, i5, au, ac, i6, i7⟩ := hi j hj
   exact ⟨bb, bo, up, pc, ib, io, ic, au, ac, rfl, h1, h2, i0, i1, i2, i3, i4, i5, i6, i7⟩
theorem phis_cell {w : World} {lo : Nat} {ub : Option Addr} {l : List BlockD} (h : BlocksAt w lo ub l) {b : Nat} (hb : b < l.length) : ∃ bb bo up pc, ub = some ⟨bb, bo, none⟩ ∧ w.cell? ⟨bb, bo + b * 6, none⟩ = some (.slice up (l.getD b block0).phis.length pc) := by
 rcases h.2 with e | ⟨bb, bo, rfl, _, hbb, hc⟩
 ·rw [e] at hb; simp at hb
 ·obtain ⟨⟨up, pc, h1, _⟩, _⟩ := hc b hb
  exact ⟨bb, bo, up, pc, rfl, h1⟩
theorem OwnFn.atU {w : World} {lo hi : Nat} {f : FnE} (h : OwnFn w lo hi f) : IntsAt w lo f.pu f.d.params ∧ BlocksAt w lo f.bu f.d.blocks := by
 obtain ⟨m, h1, h2, h3, h4⟩ := h
 exact ⟨h3.ints, (OwnBksZ.at_ (OwnBks.zone (z := m) h4) (Nat.le_refl _)).low h1⟩
theorem sm_func0 : SmFunc func0 := ⟨by decide, by decide, fun b hb => by cases hb⟩
set_option maxHeartbeats 16000000 in
set_option maxRecDepth 100000 in
theorem fnSubstituted_core (a0 : Option Addr) (len cap : Nat) (w : World) (hc : Code a0 len w.heap.size w) :
  Calls Tryd.prog 3 #[.slice a0 len cap] w fun e w' => e = .returned (.bool true) ∧ Below w.heap.size w w' := by
 by_cases hl : 1048576 < len
 ·have hb : decide (1048576 < len) = true := by simpa using hl
  go_enter Tryd.func3, Tryd.ntmps3
  go_wp2_with fail
  refine (big_any a0 len cap w).mono ?_
  rintro e w1 ⟨rfl, h9⟩
  have h8 := h9.symm
  clear h9
  subst h8
  rw [hb]
  go_wp2_with fail
  go_ret
  exact ⟨rfl, Below.refl _ _⟩
 have hb : decide (1048576 < len) = false := by simpa using hl
 have hl2 : len ≤ 1048576 := by omega
 have D1 := drawSubst a0 len cap w hl2 hc
 clear hc hl hl2
 go_enter Tryd.func3, Tryd.ntmps3
 go_wp2_with fail
 refine (big_any a0 len cap w).mono ?_
 rintro e w1 ⟨rfl, h9⟩
 have h8 := h9.symm
 clear h9
 subst h8
 rw [hb]
 clear hb
 go_wp2_with fail
 refine D1.mono ?_
 rintro e w2 ⟨d, up, ub, cp, cb, l, ul, cl, rfl, hll, hsm, hin, hbl, hil, b2⟩
 clear D1
 have hsp := hsm.1
 have hsb := hsm.2.1
 have HSM : Hid (SmFunc d) := hsm
 have k3 := below_new w2 (.cells #[.slice up d.params.length cp, .int .i64 d.ret, .slice ub d.blocks.length cb] 27)
 have HF3 : Hid (FA w.heap.size (w2.alloc (.cells #[.slice up d.params.length cp, .int .i64 d.ret, .slice ub d.blocks.length cb] 27)) w2.heap.size d up ub cp cb) := FA.new hin hbl
 have HL3 : Hid (IntsAt (w2.alloc (.cells #[.slice up d.params.length cp, .int .i64 d.ret, .slice ub d.blocks.length cb] 27)) w.heap.size ul l) := hil.keep (agree_of_below k3 _)
 have HB3 : Hid (Below w.heap.size w (w2.alloc (.cells #[.slice up d.params.length cp, .int .i64 d.ret, .slice ub d.blocks.length cb] 27))) := b2.trans (k3.mono b2.size)
 obtain ⟨q, ok, hq⟩ : ∃ q ok, substD d l = (q, ok) := ⟨_, _, rfl⟩
 have SI : Hid (∀ W, FA w.heap.size W w2.heap.size d up ub cp cb → IntsAt W w.heap.size ul l → Calls Tryd.prog 7 #[.agg #[.slice up d.params.length cp, .int .i64 d.ret, .slice ub d.blocks.length cb], .slice ul l.length cl] W fun e w' => SubTold W (q, ok) e w') := fun W h1 h2 => by
  rw [← hq]; exact substI w.heap.size d up cp ub cb l ul cl W HSM.out h1.ip h1.bl h2
 have SS : Hid (∀ W, FA w.heap.size W w2.heap.size d up ub cp cb → IntsAt W w.heap.size ul l → Calls Tryd.prog 8 #[.agg #[.slice up d.params.length cp, .int .i64 d.ret, .slice ub d.blocks.length cb], .slice ul l.length cl] W fun e w' => SubMT W (q, ok) e w') := fun W h1 h2 => by
  rw [← hq]; exact substS w.heap.size d up cp ub cb l ul cl W HSM.out h1.ip h1.bl h2
 have HQ : Hid (substD d l = (q, ok)) := hq
 have HQS : Hid (SmFunc q) := by
  by_cases h : subOk d l
  ·rw [subst_yes h] at hq; cases hq; exact sm_sb (ok_form h.1) _
  ·rw [subst_no h] at hq; cases hq; exact sm_func0
 have hqp := HQS.out.1
 have hqb := HQS.out.2.1
 clear hq hsm hin hbl hil b2 k3
 go_upto_region 4 with fail
 generalize (w2.alloc (.cells #[.slice up d.params.length cp, .int .i64 d.ret, .slice ub d.blocks.length cb] 27)) = W3 at *
 generalize w2.heap.size = T at *
 clear w2
 have x0 : W3.cell? ⟨T, 0, none⟩ = some (.slice up d.params.length cp) := HF3.out.bx.cell 0
 have x1 : W3.cell? ⟨T, 1, none⟩ = some (.int .i64 d.ret) := HF3.out.bx.cell 1
 have x2 : W3.cell? ⟨T, 2, none⟩ = some (.slice ub d.blocks.length cb) := HF3.out.bx.cell 2
 have P4 := SI.out W3 HF3.out HL3.out
 go_wp2_with fail
 refine P4.mono ?_
 rintro e w4 ⟨⟨f, hfd, rfl, hown⟩, b4⟩
 clear P4 x0 x1 x2 SI
 dsimp only at hfd ⊢
 have e1 : f.pars.length = q.params.length := by rw [← hfd]; rfl
 have e2 : f.ret = q.ret := by rw [← hfd]; rfl
 have e3 : f.bs.length = q.blocks.length := by rw [← hfd]; show _ = (f.bs.map BkE.d).length; rw [List.length_map]
 rw [e1, e2, e3]
 have o4 := OwnFn.atU hown
 rw [hfd] at o4
 clear e1 e2 e3 hfd hown
 have k4 := below_new w4 (.cells #[.slice f.pu q.params.length f.pc, .int .i64 q.ret, .slice f.bu q.blocks.length f.bc] 27)
 have b34 := b4.trans (k4.mono b4.size)
 have HG4 : Hid (FA w.heap.size (w4.alloc (.cells #[.slice f.pu q.params.length f.pc, .int .i64 q.ret, .slice f.bu q.blocks.length f.bc] 27)) w4.heap.size q f.pu f.bu f.pc f.bc) := FA.new (o4.1.low HB3.out.size) (o4.2.low HB3.out.size)
 have HF4 : Hid (FA w.heap.size (w4.alloc (.cells #[.slice f.pu q.params.length f.pc, .int .i64 q.ret, .slice f.bu q.blocks.length f.bc] 27)) T d up ub cp cb) := HF3.out.keep b34
 have HL4 : Hid (IntsAt (w4.alloc (.cells #[.slice f.pu q.params.length f.pc, .int .i64 q.ret, .slice f.bu q.blocks.length f.bc] 27)) w.heap.size ul l) := HL3.out.keep (agree_of_below b34 _)
 have HB4 : Hid (Below w.heap.size w (w4.alloc (.cells #[.slice f.pu q.params.length f.pc, .int .i64 q.ret, .slice f.bu q.blocks.length f.bc] 27))) := HB3.out.trans (b34.mono HB3.out.size)
 clear o4 k4 b34 b4 HF3 HL3 HB3
 go_upto_region 5 with fail
 generalize (w4.alloc (.cells #[.slice f.pu q.params.length f.pc, .int .i64 q.ret, .slice f.bu q.blocks.length f.bc] 27)) = W4 at *
 generalize w4.heap.size = G at *
 clear w4
 have x0 : W4.cell? ⟨T, 0, none⟩ = some (.slice up d.params.length cp) := HF4.out.bx.cell 0
 have x1 : W4.cell? ⟨T, 1, none⟩ = some (.int .i64 d.ret) := HF4.out.bx.cell 1
 have x2 : W4.cell? ⟨T, 2, none⟩ = some (.slice ub d.blocks.length cb) := HF4.out.bx.cell 2
 have P5 := SS.out W4 HF4.out HL4.out
 go_wp2_with fail
 refine P5.mono ?_
 rintro e w5 ⟨⟨pu, pc, bu, bc, rfl, j0, j2⟩, b5⟩
 clear P5 x0 x1 x2 SS
 dsimp only at j0 j2 ⊢
 have k5 := below_new w5 (.cells #[.slice pu q.params.length pc, .int .i64 q.ret, .slice bu q.blocks.length bc] 27)
 have b45 := b5.trans (k5.mono b5.size)
 have HW5 : Hid (FA w.heap.size (w5.alloc (.cells #[.slice pu q.params.length pc, .int .i64 q.ret, .slice bu q.blocks.length bc] 27)) w5.heap.size q pu bu pc bc) := FA.new (j0.low HB4.out.size) (j2.low HB4.out.size)
 have HG5 : Hid (FA w.heap.size (w5.alloc (.cells #[.slice pu q.params.length pc, .int .i64 q.ret, .slice bu q.blocks.length bc] 27)) G q f.pu f.bu f.pc f.bc) := HG4.out.keep b45
 have HF5 : Hid (FA w.heap.size (w5.alloc (.cells #[.slice pu q.params.length pc, .int .i64 q.ret, .slice bu q.blocks.length bc] 27)) T d up ub cp cb) := HF4.out.keep b45
 have HL5 : Hid (IntsAt (w5.alloc (.cells #[.slice pu q.params.length pc, .int .i64 q.ret, .slice bu q.blocks.length bc] 27)) w.heap.size ul l) := HL4.out.keep (agree_of_below b45 _)
 have HB5 : Hid (Below w.heap.size w (w5.alloc (.cells #[.slice pu q.params.length pc, .int .i64 q.ret, .slice bu q.blocks.length bc] 27))) := HB4.out.trans (b45.mono HB4.out.size)
 clear j0 j2 k5 b45 b5 HF4 HG4 HL4 HB4
 go_upto_region 6 with fail
 generalize (w5.alloc (.cells #[.slice pu q.params.length pc, .int .i64 q.ret, .slice bu q.blocks.length bc] 27)) = W5 at *
 generalize w5.heap.size = V at *
 clear w5
 have SF : Hid (∀ W, FA w.heap.size W G q f.pu f.bu f.pc f.bc → FA w.heap.size W V q pu bu pc bc → Calls Tryd.prog 9 #[.agg #[.slice f.pu q.params.length f.pc, .int .i64 q.ret, .slice f.bu q.blocks.length f.bc], .agg #[.slice pu q.params.length pc, .int .i64 q.ret, .slice bu q.blocks.length bc]] W fun e w' => e = .returned (.bool true) ∧ Below W.heap.size W w') := fun W h1 h2 =>
  sameFuncL w.heap.size w.heap.size q f.pu f.pc f.bu f.bc pu pc bu bc W HQS.out.1 (fun b hb => ⟨(HQS.out.2.2 b hb).1.2, (HQS.out.2.2 b hb).2.2⟩) h1.ip h1.bl h2.ip h2.bl
 have x0 : W5.cell? ⟨G, 0, none⟩ = some (.slice f.pu q.params.length f.pc) := HG5.out.bx.cell 0
 have x1 : W5.cell? ⟨G, 1, none⟩ = some (.int .i64 q.ret) := HG5.out.bx.cell 1
 have x2 : W5.cell? ⟨G, 2, none⟩ = some (.slice f.bu q.blocks.length f.bc) := HG5.out.bx.cell 2
 have y0 : W5.cell? ⟨V, 0, none⟩ = some (.slice pu q.params.length pc) := HW5.out.bx.cell 0
 have y1 : W5.cell? ⟨V, 1, none⟩ = some (.int .i64 q.ret) := HW5.out.bx.cell 1
 have y2 : W5.cell? ⟨V, 2, none⟩ = some (.slice bu q.blocks.length bc) := HW5.out.bx.cell 2
 have P6 := SF.out W5 HG5.out HW5.out
 cases ok with
 | false =>
  go_wp2_with fail
  refine P6.mono ?_
  rintro e w6 ⟨rfl, b6⟩
  clear P6 x0 x1 x2 y0 y1 y2
  have HW6 : Hid (FA w.heap.size w6 V q pu bu pc bc) := HW5.out.keep b6
  have HG6 : Hid (FA w.heap.size w6 G q f.pu f.bu f.pc f.bc) := HG5.out.keep b6
  have HB6 : Hid (Below w.heap.size w w6) := HB5.out.trans (b6.mono HB5.out.size)
  clear b6 HW5 HG5 HB5 HF5 HL5
  have x0 : w6.cell? ⟨G, 0, none⟩ = some (.slice f.pu q.params.length f.pc) := HG6.out.bx.cell 0
  have x1 : w6.cell? ⟨G, 1, none⟩ = some (.int .i64 q.ret) := HG6.out.bx.cell 1
  have x2 : w6.cell? ⟨G, 2, none⟩ = some (.slice f.bu q.blocks.length f.bc) := HG6.out.bx.cell 2
  have y0 : w6.cell? ⟨V, 0, none⟩ = some (.slice pu q.params.length pc) := HW6.out.bx.cell 0
  have y1 : w6.cell? ⟨V, 1, none⟩ = some (.int .i64 q.ret) := HW6.out.bx.cell 1
  have y2 : w6.cell? ⟨V, 2, none⟩ = some (.slice bu q.blocks.length bc) := HW6.out.bx.cell 2
  have P7 := SF.out w6 HG6.out HW6.out
  go_wp2_with fail
  refine P7.mono ?_
  rintro e w7 ⟨rfl, b7⟩
  clear P7 x0 x1 x2 y0 y1 y2
  have HB7 : Hid (Below w.heap.size w w7) := HB6.out.trans (b7.mono HB6.out.size)
  clear b7 HB6 HW6 HG6
  go_wp2_with fail
  go_ret
  exact ⟨rfl, HB7.out⟩
 | true =>
  have HOK : Hid (subOk d l) := by
   by_cases h : subOk d l
   ·exact h
   ·have := HQ.out; rw [subst_no h] at this; cases this
  have HQE : Hid (q = sbFunc (rhoT l) d) := by
   have := HQ.out; rw [subst_yes HOK.out] at this; cases this; rfl
  obtain ⟨n, hn⟩ : ∃ n, cntF d = n := ⟨_, rfl⟩
  have hn60 : n ≤ 60 := by
   have := HOK.out.1
   unfold funcB at this
   simp only [Bool.and_eq_true, decide_eq_true_eq] at this
   omega
  have HLN : Hid (l.length = n) := by show _ = _; rw [← hn]; exact HOK.out.2.1
  have HPL : Hid (∀ k, d.params.length ≤ k → k < n → ∃ j y : Nat, placeF d k = ((j : Int), (y : Int)) ∧ j < d.blocks.length ∧ y < cntB (d.blocks.getD j block0)) := fun k h1 h2 => placeF_in h1 (by omega)
  have hpn : d.params.length ≤ n := by rw [← hn]; exact Nat.le_add_right _ _
  have CF : Hid (∀ W, FA w.heap.size W T d up ub cp cb → Calls Tryd.prog 10 #[.agg #[.slice up d.params.length cp, .int .i64 d.ret, .slice ub d.blocks.length cb]] W fun e w' => e = .returned (.int .i64 n) ∧ Below W.heap.size W w') := fun W h => by
   rw [← hn]; exact countI_any w.heap.size d up cp ub cb W HSM.out h.bl
  have CG : Hid (∀ W, FA w.heap.size W G q f.pu f.bu f.pc f.bc → Calls Tryd.prog 10 #[.agg #[.slice f.pu q.params.length f.pc, .int .i64 q.ret, .slice f.bu q.blocks.length f.bc]] W fun e w' => e = .returned (.int .i64 n) ∧ Below W.heap.size W w') := fun W h => by
   rw [← hn, ← cnt_sb (rhoT l) d, ← HQE.out]; exact countI_any w.heap.size q f.pu f.pc f.bu f.bc W HQS.out h.bl
  have HSELF : Hid (∀ us cs W, FA w.heap.size W T d up ub cp cb → IntsAt W w.heap.size us (selfL n) → Calls Tryd.prog 7 #[.agg #[.slice up d.params.length cp, .int .i64 d.ret, .slice ub d.blocks.length cb], .slice us n cs] W fun e w' => SubTold W (d, true) e w') := fun us cs W h1 h2 => by
   have := substI w.heap.size d up cp ub cb (selfL n) us cs W HSM.out h1.ip h1.bl h2
   rw [selfL_len, ← hn, self_subst HOK.out.1] at this
   rw [← hn]; exact this
  clear hn
  go_wp2_with fail
  refine P6.mono ?_
  rintro e w6 ⟨rfl, b6⟩
  clear P6 x0 x1 x2 y0 y1 y2 SF HQ
  have HG6 : Hid (FA w.heap.size w6 G q f.pu f.bu f.pc f.bc) := HG5.out.keep b6
  have HF6 : Hid (FA w.heap.size w6 T d up ub cp cb) := HF5.out.keep b6
  have HL6 : Hid (IntsAt w6 w.heap.size ul l) := HL5.out.keep (agree_of_below b6 _)
  have HB6 : Hid (Below w.heap.size w w6) := HB5.out.trans (b6.mono HB5.out.size)
  clear b6 HW5 HG5 HB5 HF5 HL5
  go_upto_region 9 with fail
  have HR1 : Hid (Row (w6.alloc (.cells #[] 2)) w6.heap.size (.slice (some ⟨w6.heap.size, 0, none⟩) 0 0) (selfL 0)) := Row.lit w6 _ (Nat.le_refl _)
  have HD1 : Hid (Below w6.heap.size w6 (w6.alloc (.cells #[] 2))) := below_new _ _
  generalize (w6.alloc (.cells #[] 2)) = W7 at *
  go_wp2_with fail
  go_loopw [9, 10] (fun v i wr => ∃ k : Nat, k ≤ l.length ∧ i = .int .i64 k ∧ Hid (Row wr w6.heap.size v (selfL k)) ∧ Hid (Below w6.heap.size w6 wr)) (fun _ i _ => l.length - (intOf i).toNat)
  case atStart => exact ⟨0, by omega, rfl, HR1.out, HD1.out⟩
  case round =>
   clear HR1 HD1
   obtain ⟨k, hk, rfl, HR, HD⟩ := hrel
   obtain ⟨w8, hwo⟩ : ∃ w1, w1 = wr := ⟨_, rfl⟩
   subst hwo
   by_cases hlt : k < l.length
   ·have hz8 := HD.out.size
    have hkl : (selfL k).length ≤ 100 := by rw [selfL_len]; have := HLN.out; omega
    go_wp2_with (at_builtin; refine push_big rfl _ _ rfl w6.heap.size u9 (selfL k) rfl (HR.out.alloc _) (k : Int) _ 1 rfl (by exact one_cell_at rfl) (by omega) (by simp; omega) ?_; intro v9 w9 ho9 hg9)
    have HR9 : Hid (Row w9 w6.heap.size v9 (selfL (k + 1))) := by show Row _ _ _ _; rw [selfL_succ]; exact ho9
    have HD9 : Hid (Below w6.heap.size w6 w9) := (HD.out.alloc HD.out.size _).grown hg9 (by simp; omega) (fun q hq => (HR.out.ge hq).1)
    clear ho9 hg9 HR HD hz8 hkl
    go_wp2_with fail
    go_roundw
    case rel => exact ⟨k + 1, by omega, by go_num, HR9.out, HD9.out⟩
    case measure => simp [intOf]; omega
   ·have hkn : k = n := by have := HLN.out; omega
    subst hkn
    obtain ⟨us, cs, rfl, hus⟩ := HR.out.intsB (by rw [selfL_len]; omega)
    rw [selfL_len]
    have HS8 : Hid (IntsAt w8 w.heap.size us (selfL k)) := hus.low (Nat.le_trans HB6.out.size (Nat.le_refl _))
    have HG8 : Hid (FA w.heap.size w8 G q f.pu f.bu f.pc f.bc) := HG6.out.keep HD.out
    have HF8 : Hid (FA w.heap.size w8 T d up ub cp cb) := HF6.out.keep HD.out
    have HL8 : Hid (IntsAt w8 w.heap.size ul l) := HL6.out.keep (agree_of_below HD.out _)
    have HB8 : Hid (Below w.heap.size w w8) := HB6.out.trans (HD.out.mono HB6.out.size)
    clear hus HR HD HG6 HF6 HL6 HB6
    have x0 : w8.cell? ⟨T, 0, none⟩ = some (.slice up d.params.length cp) := HF8.out.bx.cell 0
    have x1 : w8.cell? ⟨T, 1, none⟩ = some (.int .i64 d.ret) := HF8.out.bx.cell 1
    have x2 : w8.cell? ⟨T, 2, none⟩ = some (.slice ub d.blocks.length cb) := HF8.out.bx.cell 2
    go_wp2_with fail
    clear x0 x1 x2 hk hlt
    go_loopw [11] (fun i wr => ∃ m : Nat, d.params.length ≤ m ∧ m ≤ k ∧ i = .int .i64 m ∧ Hid (Below w8.heap.size w8 wr)) (fun i _ => k - (intOf i).toNat)
    case atStart => exact ⟨d.params.length, by omega, by omega, rfl, Below.refl _ _⟩
    case round =>
     obtain ⟨m, hm0, hm1, rfl, HD⟩ := hrel
     obtain ⟨wo, hwo⟩ : ∃ w1, w1 = wr := ⟨_, rfl⟩
     subst hwo
     have HFo : Hid (FA w.heap.size wo T d up ub cp cb) := HF8.out.keep HD.out
     have x0 : wo.cell? ⟨T, 0, none⟩ = some (.slice up d.params.length cp) := HFo.out.bx.cell 0
     have x1 : wo.cell? ⟨T, 1, none⟩ = some (.int .i64 d.ret) := HFo.out.bx.cell 1
     have x2 : wo.cell? ⟨T, 2, none⟩ = some (.slice ub d.blocks.length cb) := HFo.out.bx.cell 2
     have PC := CF.out wo HFo.out
     go_wp2_with fail
     refine PC.mono ?_
     rintro e w9 ⟨rfl, b9⟩
     have HF9 : Hid (FA w.heap.size w9 T d up ub cp cb) := HFo.out.keep b9
     have HD9 : Hid (Below w8.heap.size w8 w9) := HD.out.trans (b9.mono HD.out.size)
     clear PC x0 x1 x2 HFo b9 HD
     by_cases hmk : m < k
     ·obtain ⟨j, y, hpl, hj, hy⟩ := HPL.out m hm0 hmk
      have PP := placeI_any w.heap.size d up cp ub cb m w9 HSM.out HF9.out.bl (by omega)
      rw [hpl] at PP
      clear hpl
      have x0 : w9.cell? ⟨T, 0, none⟩ = some (.slice up d.params.length cp) := HF9.out.bx.cell 0
      have x1 : w9.cell? ⟨T, 1, none⟩ = some (.int .i64 d.ret) := HF9.out.bx.cell 1
      have x2 : w9.cell? ⟨T, 2, none⟩ = some (.slice ub d.blocks.length cb) := HF9.out.bx.cell 2
      go_wp2_with fail
      refine PP.mono ?_
      rintro e w10 ⟨rfl, b10⟩
      clear PP x0 x1 x2
      dsimp only
      have HF10 : Hid (FA w.heap.size w10 T d up ub cp cb) := HF9.out.keep b10
      have HD10 : Hid (Below w8.heap.size w8 w10) := HD9.out.trans (b10.mono HD9.out.size)
      clear b10 HF9 HD9
      have hsk := HSM.out.2.2 _ (getD_mem block0 d.blocks j hj)
      have hk1 := hsk.1.1
      have hk2 := hsk.2.1
      clear hsk
      have x0 : w10.cell? ⟨T, 0, none⟩ = some (.slice up d.params.length cp) := HF10.out.bx.cell 0
      have x1 : w10.cell? ⟨T, 1, none⟩ = some (.int .i64 d.ret) := HF10.out.bx.cell 1
      have x2 : w10.cell? ⟨T, 2, none⟩ = some (.slice ub d.blocks.length cb) := HF10.out.bx.cell 2
      by_cases hyn : y < (d.blocks.getD j block0).phis.length
      ·obtain ⟨bb, bo, pu2, pc2, rfl, c0⟩ := phis_cell HF10.out.bl hj
       generalize (d.blocks.getD j block0) = X at *
       go_wp2_with fail
       go_roundw
       case rel => exact ⟨m + 1, by omega, by omega, by go_num, HD10.out⟩
       case measure => simp [intOf]; omega
      ·obtain ⟨i, rfl⟩ : ∃ i, y = (d.blocks.getD j block0).phis.length + i := ⟨y - (d.blocks.getD j block0).phis.length, by omega⟩
       have hi : i < (d.blocks.getD j block0).insts.length := by unfold cntB at hy; omega
       have hjq : j < q.blocks.length := by rw [HQE.out]; show _ < (d.blocks.map _).length; rw [List.length_map]; exact hj
       have hq1 : Hid ((q.blocks.getD j block0).insts.length = (d.blocks.getD j block0).insts.length) := by show _ = _; rw [HQE.out, sb_block _ _ hj]; show (List.map _ _).length = _; rw [List.length_map]
       have hq2 : (q.blocks.getD j block0).phis.length ≤ 1048576 := (HQS.out.2.2 _ (getD_mem block0 q.blocks j hjq)).1.1
       obtain ⟨OX, hOX⟩ : ∃ OX, opsD ((d.blocks.getD j block0).insts.getD i inst0) = OX := ⟨_, rfl⟩
       obtain ⟨OY, hOY⟩ : ∃ OY, opsD ((q.blocks.getD j block0).insts.getD i inst0) = OY := ⟨_, rfl⟩
       have hlen : Hid (OY.length = OX.length) := by show _ = _; rw [← hOX, ← hOY, HQE.out]; exact sub_len hj hi
       have SUB : Hid (∀ k, k < OX.length → ∃ m : Nat, OX.getD k 0 = (m : Int) ∧ m < l.length ∧ OY.getD k 0 = l.getD m 0) := by
        show ∀ k, _
        rw [← hOX, ← hOY, HQE.out]; exact sub_ops HOK.out hj hi
       have hax := (HSM.out.2.2 _ (getD_mem block0 d.blocks j hj)).2.2 _ (getD_mem inst0 _ i hi)
       have hay := (HQS.out.2.2 _ (getD_mem block0 q.blocks j hjq)).2.2 _ (getD_mem inst0 _ i (by have := hq1.out; omega : i < (q.blocks.getD j block0).insts.length))
       have HX : Hid (∀ lo au ac W, IntsAt W lo au ((d.blocks.getD j block0).insts.getD i inst0).args → Calls Tryd.prog 12 #[.agg #[.int .i64 ((d.blocks.getD j block0).insts.getD i inst0).op, .int .i64 ((d.blocks.getD j block0).insts.getD i inst0).w, .int .i64 ((d.blocks.getD j block0).insts.getD i inst0).a, .int .i64 ((d.blocks.getD j block0).insts.getD i inst0).b, .int .i64 ((d.blocks.getD j block0).insts.getD i inst0).c, .int .i64 ((d.blocks.getD j block0).insts.getD i inst0).imm, .slice au ((d.blocks.getD j block0).insts.getD i inst0).args.length ac]] W fun e w' => ∃ v r, e = .returned (.slice v OX.length r) ∧ OwnAt w' W.heap.size v OX ∧ Below W.heap.size W w') := fun lo au ac W h => by
        rw [← hOX]; exact operI lo _ au ac W hax h
       have HY : Hid (∀ lo au ac W, IntsAt W lo au ((q.blocks.getD j block0).insts.getD i inst0).args → Calls Tryd.prog 12 #[.agg #[.int .i64 ((q.blocks.getD j block0).insts.getD i inst0).op, .int .i64 ((q.blocks.getD j block0).insts.getD i inst0).w, .int .i64 ((q.blocks.getD j block0).insts.getD i inst0).a, .int .i64 ((q.blocks.getD j block0).insts.getD i inst0).b, .int .i64 ((q.blocks.getD j block0).insts.getD i inst0).c, .int .i64 ((q.blocks.getD j block0).insts.getD i inst0).imm, .slice au ((q.blocks.getD j block0).insts.getD i inst0).args.length ac]] W fun e w' => ∃ v r, e = .returned (.slice v OX.length r) ∧ OwnAt w' W.heap.size v OY ∧ Below W.heap.size W w') := fun lo au ac W h => by
        rw [← hlen.out, ← hOY]; exact operI lo _ au ac W hay h
       clear hOX hOY hax hay hy hyn
       obtain ⟨bb, bo, pu2, pc2, ib, io, ic, au, ac, hub, c0, c1, i0, i1, i2, i3, i4, i5, i6, hau⟩ := inst_cellsU HF10.out.bl hj hi
       have PX := HX.out w.heap.size au ac w10 hau
       clear HX hau
       rw [hub] at x2
       clear hub
       generalize (d.blocks.getD j block0).phis.length = N at *
       generalize (d.blocks.getD j block0).insts.length = NI at *
       generalize (d.blocks.getD j block0).insts.getD i inst0 = IX at *
       go_wp2_with fail
       refine PX.mono ?_
       rintro e w11 ⟨vx, rx, rfl, hox, b11⟩
       have HX11 : Hid (IntsAt w11 w10.heap.size vx OX) := hox.ints
       have HD11 : Hid (Below w8.heap.size w8 w11) := HD10.out.trans (b11.mono HD10.out.size)
       have hz11 : w10.heap.size ≤ w11.heap.size := b11.size
       have hz10 : w8.heap.size ≤ w10.heap.size := HD10.out.size
       clear PX x0 x1 x2 c0 c1 i0 i1 i2 i3 i4 i5 i6 hox b11 HF10 HD10
       have HG11 : Hid (FA w.heap.size w11 G q f.pu f.bu f.pc f.bc) := HG8.out.keep HD11.out
       have x0 : w11.cell? ⟨G, 0, none⟩ = some (.slice f.pu q.params.length f.pc) := HG11.out.bx.cell 0
       have x1 : w11.cell? ⟨G, 1, none⟩ = some (.int .i64 q.ret) := HG11.out.bx.cell 1
       have x2 : w11.cell? ⟨G, 2, none⟩ = some (.slice f.bu q.blocks.length f.bc) := HG11.out.bx.cell 2
       obtain ⟨bb, bo, pu2, pc2, ib, io, ic, au, ac, hub, c0, c1, i0, i1, i2, i3, i4, i5, i6, hau⟩ := inst_cellsU HG11.out.bl hjq (by have := hq1.out; omega : i < (q.blocks.getD j block0).insts.length)
       have PY := HY.out w.heap.size au ac w11 hau
       clear HY hau
       rw [hub] at x2
       clear hub
       rw [hq1.out] at c1
       generalize (q.blocks.getD j block0).phis.length = N2 at *
       generalize (q.blocks.getD j block0).insts.getD i inst0 = IY at *
       go_wp2_with fail
       refine PY.mono ?_
       rintro e w12 ⟨vy, ry, rfl, hoy, b12⟩
       have HY12 : Hid (IntsAt w12 w11.heap.size vy OY) := hoy.ints
       have HX12 : Hid (IntsAt w12 w10.heap.size vx OX) := HX11.out.keep (agree_of_below b12 _)
       have HD12 : Hid (Below w8.heap.size w8 w12) := HD11.out.trans (b12.mono HD11.out.size)
       clear PY x0 x1 x2 c0 c1 i0 i1 i2 i3 i4 i5 i6 hoy b12 HG11 HD11 HX11 hq1
       go_wp2_with fail
       go_loopw [17] (fun i wr => ∃ p : Nat, p ≤ OX.length ∧ i = .int .i64 p ∧ Hid (Below w12.heap.size w12 wr)) (fun i _ => OX.length - (intOf i).toNat)
       case atStart => exact ⟨0, by omega, rfl, Below.refl _ _⟩
       case round =>
        obtain ⟨p, hp, rfl, HDp⟩ := hrel
        obtain ⟨wp, hwp⟩ : ∃ w1, w1 = wr := ⟨_, rfl⟩
        subst hwp
        have HDo : Hid (Below w8.heap.size w8 wp) := HD12.out.trans (HDp.out.mono HD12.out.size)
        by_cases hpl : p < OX.length
        ·obtain ⟨t, ht0, ht1, ht2⟩ := SUB.out p hpl
         obtain ⟨xb, xo, rfl, _, cx⟩ := ints_cellU (HX12.out.keep (agree_of_below HDp.out _)) hpl
         obtain ⟨yb, yo, rfl, _, cy⟩ := ints_cellU (HY12.out.keep (agree_of_below HDp.out _)) (by have := hlen.out; omega : p < OY.length)
         obtain ⟨tb, tq, rfl, _, ct⟩ := ints_cellU (HL8.out.keep (agree_of_below HDo.out _)) ht1
         rw [ht0] at cx
         rw [ht2] at cy
         clear ht0 ht2
         generalize l.getD t 0 = z at *
         have hpl2 : ¬ (OX.length : Int) ≤ (p : Int) := by omega
         have hox1 : OX.length ≤ 9223372036854775807 := HX12.out.1
         go_upto_region 24 with fail
         have HDpd : Hid (Below w12.heap.size w12 wp.drew) := HDp.out.drew
         have s0 : wp.drew.cell? ⟨yb, yo + p, none⟩ = some (.int .i64 z) ∧ wp.drew.cell? ⟨xb, xo + p, none⟩ = some (.int .i64 t) ∧ wp.drew.cell? ⟨tb, tq + t, none⟩ = some (.int .i64 z) := ⟨cy, cx, ct⟩
         clear cx cy ct HX12 HY12 HDp HDo
         refine startX (fun w' => w'.cell? ⟨yb, yo + p, none⟩ = some (.int .i64 z) ∧ w'.cell? ⟨xb, xo + p, none⟩ = some (.int .i64 t) ∧ w'.cell? ⟨tb, tq + t, none⟩ = some (.int .i64 z)) (fun _ => false) (by kernel_rfl) ?_
         refine takeX 0 (v := ?_) rfl rfl (by kernel_rfl) (fun _ _ _ h => h) (yesH (by rfl) ?_) s0 ?_
         rotate_left
         ·intro w9 hS9
          obtain ⟨cy, cx, ct⟩ := hS9
          go_simp
          try with_reducible rfl
         try simp only [Act.put, sA, sB, sC]
         refine takeX 1 (v := ?_) rfl rfl (by kernel_rfl) (fun _ _ _ h => h) (yesH (by rfl) ?_) s0 ?_
         rotate_left
         ·intro w9 hS9
          obtain ⟨cy, cx, ct⟩ := hS9
          go_simp
          try with_reducible rfl
         try simp only [Act.put, sA, sB, sC]
         refine takeX 2 (v := ?_) rfl rfl (by kernel_rfl) (fun _ _ _ h => h) (yesH (by rfl) ?_) s0 ?_
         rotate_left
         ·intro w9 hS9
          obtain ⟨cy, cx, ct⟩ := hS9
          go_simp
          try with_reducible rfl
         try simp only [Act.put, sA, sB, sC]
         refine takeX 3 (v := .bool false) rfl rfl (by kernel_rfl) (fun _ _ _ h => h) (yesH (by rfl) ?_) s0 ?_
         ·intro w9 hS9
          obtain ⟨cy, cx, ct⟩ := hS9
          go_simp
          first
          | with_reducible rfl
          | (simp; omega)
          | simp [hpl2]
          | skip
         try simp only [Act.put, sA, sB, sC]
         refine takeX 4 (v := .bool false) rfl rfl (by kernel_rfl) (fun _ _ _ h => h) (yesH (by rfl) ?_) s0 ?_
         ·intro w9 hS9
          obtain ⟨cy, cx, ct⟩ := hS9
          go_simp
          first
          | with_reducible rfl
          | (simp; omega)
          | simp [hpl2]
          | skip
         try simp only [Act.put, sA, sB, sC]
         refine takeX 5 (v := ?_) rfl rfl (by kernel_rfl) (fun _ _ _ h => h) (yesH (by rfl) ?_) s0 ?_
         rotate_left
         ·intro w9 hS9
          obtain ⟨cy, cx, ct⟩ := hS9
          go_simp
          try with_reducible rfl
         try simp only [Act.put, sA, sB, sC]
         refine takeX 6 (v := ?_) rfl rfl (by kernel_rfl) (fun _ _ _ h => h) (yesH (by rfl) ?_) s0 ?_
         rotate_left
         ·intro w9 hS9
          obtain ⟨cy, cx, ct⟩ := hS9
          go_simp
          try with_reducible rfl
         try simp only [Act.put, sA, sB, sC]
         refine takeX 7 (v := ?_) rfl rfl (by kernel_rfl) (fun _ _ _ h => h) (yesH (by rfl) ?_) s0 ?_
         rotate_left
         ·intro w9 hS9
          obtain ⟨cy, cx, ct⟩ := hS9
          go_simp
          try with_reducible rfl
         try simp only [Act.put, sA, sB, sC]
         refine takeX 8 (v := ?_) rfl rfl (by kernel_rfl) (fun _ _ _ h => h) (yesH (by rfl) ?_) s0 ?_
         rotate_left
         ·intro w9 hS9
          obtain ⟨cy, cx, ct⟩ := hS9
          go_simp
          try with_reducible rfl
         try simp only [Act.put, sA, sB, sC]
         refine takeX 9 (v := ?_) rfl rfl (by kernel_rfl) (fun _ _ _ h => h) (yesH (by rfl) ?_) s0 ?_
         rotate_left
         ·intro w9 hS9
          obtain ⟨cy, cx, ct⟩ := hS9
          go_simp
          try with_reducible rfl
         try simp only [Act.put, sA, sB, sC]
         refine takeX 10 (v := ?_) rfl rfl (by kernel_rfl) (fun _ _ _ h => h) (yesH (by rfl) ?_) s0 ?_
         rotate_left
         ·intro w9 hS9
          obtain ⟨cy, cx, ct⟩ := hS9
          go_simp
          try with_reducible rfl
         try simp only [Act.put, sA, sB, sC]
         refine takeX 11 (v := ?_) rfl rfl (by kernel_rfl) (fun _ _ _ h => h) (yesH (by rfl) ?_) s0 ?_
         rotate_left
         ·intro w9 hS9
          obtain ⟨cy, cx, ct⟩ := hS9
          go_simp
          try with_reducible rfl
         try simp only [Act.put, sA, sB, sC]
         refine takeX 12 (v := ?_) rfl rfl (by kernel_rfl) (fun _ _ _ h => h) (yesH (by rfl) ?_) s0 ?_
         rotate_left
         ·intro w9 hS9
          obtain ⟨cy, cx, ct⟩ := hS9
          go_simp
          try with_reducible rfl
         try simp only [Act.put, sA, sB, sC]
         refine takeX 13 (v := ?_) rfl rfl (by kernel_rfl) (fun _ _ _ h => h) (yesH (by rfl) ?_) s0 ?_
         rotate_left
         ·intro w9 hS9
          obtain ⟨cy, cx, ct⟩ := hS9
          go_simp
          try with_reducible rfl
         try simp only [Act.put, sA, sB, sC]
         refine takeX 14 (v := ?_) rfl rfl (by kernel_rfl) (fun _ _ _ h => h) (yesH (by rfl) ?_) s0 ?_
         rotate_left
         ·intro w9 hS9
          obtain ⟨cy, cx, ct⟩ := hS9
          go_simp
          try with_reducible rfl
         try simp only [Act.put, sA, sB, sC]
         refine takeX 15 (v := ?_) rfl rfl (by kernel_rfl) (fun _ _ _ h => h) (yesH (by rfl) ?_) s0 ?_
         rotate_left
         ·intro w9 hS9
          obtain ⟨cy, cx, ct⟩ := hS9
          go_simp
          try with_reducible rfl
         try simp only [Act.put, sA, sB, sC]
         refine takeX 16 (v := .bool false) rfl rfl (by kernel_rfl) (fun _ _ _ h => h) (yesH (by rfl) ?_) s0 ?_
         ·intro w9 hS9
          obtain ⟨cy, cx, ct⟩ := hS9
          go_simp
          first
          | with_reducible rfl
          | (simp; omega)
          | simp [hpl2]
          | skip
         try simp only [Act.put, sA, sB, sC]
         refine takeX 17 (v := .bool false) rfl rfl (by kernel_rfl) (fun _ _ _ h => h) (yesH (by rfl) ?_) s0 ?_
         ·intro w9 hS9
          obtain ⟨cy, cx, ct⟩ := hS9
          go_simp
          first
          | with_reducible rfl
          | (simp; omega)
          | simp [hpl2]
          | skip
         try simp only [Act.put, sA, sB, sC]
         refine doneX (by kernel_rfl) ?_ _
         go_wp2_with fail
         go_roundw
         case rel => exact ⟨p + 1, by omega, by go_num, HDpd.out⟩
         case measure => simp [intOf]; omega
        ·clear SUB HX12 HY12
         go_wp2_with fail
         go_roundw
         case rel => exact ⟨m + 1, by omega, by omega, by go_num, HDo.out⟩
         case measure => simp [intOf]; omega
     ·have HS9 : Hid (IntsAt w9 w.heap.size us (selfL k)) := HS8.out.keep (agree_of_below HD9.out _)
      have HG9 : Hid (FA w.heap.size w9 G q f.pu f.bu f.pc f.bc) := HG8.out.keep HD9.out
      have HB9 : Hid (Below w.heap.size w w9) := HB8.out.trans (HD9.out.mono HB8.out.size)
      clear HD9 HS8 HG8 HB8 HF8 HL8
      have x0 : w9.cell? ⟨T, 0, none⟩ = some (.slice up d.params.length cp) := HF9.out.bx.cell 0
      have x1 : w9.cell? ⟨T, 1, none⟩ = some (.int .i64 d.ret) := HF9.out.bx.cell 1
      have x2 : w9.cell? ⟨T, 2, none⟩ = some (.slice ub d.blocks.length cb) := HF9.out.bx.cell 2
      have PS := HSELF.out us cs w9 HF9.out HS9.out
      go_wp2_with fail
      refine PS.mono ?_
      rintro e w10 ⟨⟨s, hsd, rfl, hown⟩, b10⟩
      clear PS x0 x1 x2 HSELF HS9
      dsimp only at hsd ⊢
      have e1 : s.pars.length = d.params.length := by rw [← hsd]; rfl
      have e2 : s.ret = d.ret := by rw [← hsd]; rfl
      have e3 : s.bs.length = d.blocks.length := by rw [← hsd]; show _ = (s.bs.map BkE.d).length; rw [List.length_map]
      rw [e1, e2, e3]
      have o10 := OwnFn.atU hown
      rw [hsd] at o10
      clear e1 e2 e3 hsd hown
      have k10 := below_new w10 (.cells #[.slice s.pu d.params.length s.pc, .int .i64 d.ret, .slice s.bu d.blocks.length s.bc] 27)
      have b910 := b10.trans (k10.mono b10.size)
      have HS10 : Hid (FA w.heap.size (w10.alloc (.cells #[.slice s.pu d.params.length s.pc, .int .i64 d.ret, .slice s.bu d.blocks.length s.bc] 27)) w10.heap.size d s.pu s.bu s.pc s.bc) := FA.new (o10.1.low HB9.out.size) (o10.2.low HB9.out.size)
      have HF10 : Hid (FA w.heap.size (w10.alloc (.cells #[.slice s.pu d.params.length s.pc, .int .i64 d.ret, .slice s.bu d.blocks.length s.bc] 27)) T d up ub cp cb) := HF9.out.keep b910
      have HG10 : Hid (FA w.heap.size (w10.alloc (.cells #[.slice s.pu d.params.length s.pc, .int .i64 d.ret, .slice s.bu d.blocks.length s.bc] 27)) G q f.pu f.bu f.pc f.bc) := HG9.out.keep b910
      have HB10 : Hid (Below w.heap.size w (w10.alloc (.cells #[.slice s.pu d.params.length s.pc, .int .i64 d.ret, .slice s.bu d.blocks.length s.bc] 27))) := HB9.out.trans (b910.mono HB9.out.size)
      clear o10 k10 b910 b10 HF9 HG9 HB9
      go_upto_region 27 with fail
      generalize (w10.alloc (.cells #[.slice s.pu d.params.length s.pc, .int .i64 d.ret, .slice s.bu d.blocks.length s.bc] 27)) = W10 at *
      generalize w10.heap.size = U at *
      clear w10
      have PM := sameFuncL w.heap.size w.heap.size d s.pu s.pc s.bu s.bc up cp ub cb W10.drew HSM.out.1 (fun b hb => ⟨(HSM.out.2.2 b hb).1.2, (HSM.out.2.2 b hb).2.2⟩) HS10.out.drew.ip HS10.out.drew.bl HF10.out.drew.ip HF10.out.drew.bl
      have s0 : (At W10.drew U #[.slice s.pu d.params.length s.pc, .int .i64 d.ret, .slice s.bu d.blocks.length s.bc] 27 ∧ At W10.drew T #[.slice up d.params.length cp, .int .i64 d.ret, .slice ub d.blocks.length cb] 27 ∧ At W10.drew G #[.slice f.pu q.params.length f.pc, .int .i64 q.ret, .slice f.bu q.blocks.length f.bc] 27) := ⟨HS10.out.bx, HF10.out.bx, HG10.out.bx⟩
      have row9 : Hid (∀ W : World, ((At W U #[.slice s.pu d.params.length s.pc, .int .i64 d.ret, .slice s.bu d.blocks.length s.bc] 27 ∧ At W T #[.slice up d.params.length cp, .int .i64 d.ret, .slice ub d.blocks.length cb] 27 ∧ At W G #[.slice f.pu q.params.length f.pc, .int .i64 q.ret, .slice f.bu q.blocks.length f.bc] 27)) → (W.cell? ⟨U, 0, none⟩ = some (.slice s.pu d.params.length s.pc) ∧ W.cell? ⟨U, 1, none⟩ = some (.int .i64 d.ret) ∧ W.cell? ⟨U, 2, none⟩ = some (.slice s.bu d.blocks.length s.bc)) ∧ (W.cell? ⟨T, 0, none⟩ = some (.slice up d.params.length cp) ∧ W.cell? ⟨T, 1, none⟩ = some (.int .i64 d.ret) ∧ W.cell? ⟨T, 2, none⟩ = some (.slice ub d.blocks.length cb)) ∧ (W.cell? ⟨G, 0, none⟩ = some (.slice f.pu q.params.length f.pc) ∧ W.cell? ⟨G, 1, none⟩ = some (.int .i64 q.ret) ∧ W.cell? ⟨G, 2, none⟩ = some (.slice f.bu q.blocks.length f.bc))) := fun W h => ⟨⟨h.1.cell 0, h.1.cell 1, h.1.cell 2⟩, ⟨h.2.1.cell 0, h.2.1.cell 1, h.2.1.cell 2⟩, ⟨h.2.2.cell 0, h.2.2.cell 1, h.2.2.cell 2⟩⟩
      refine startX (fun w' => (At w' U #[.slice s.pu d.params.length s.pc, .int .i64 d.ret, .slice s.bu d.blocks.length s.bc] 27 ∧ At w' T #[.slice up d.params.length cp, .int .i64 d.ret, .slice ub d.blocks.length cb] 27 ∧ At w' G #[.slice f.pu q.params.length f.pc, .int .i64 q.ret, .slice f.bu q.blocks.length f.bc] 27)) (fun _ => false) (by kernel_rfl) ?_
      refine takeX 0 (v := ?_) rfl rfl (by kernel_rfl) (fun _ _ _ h => h) (yesH (by rfl) ?_) s0 ?_
      rotate_left
      ·intro w9 hS9
       obtain ⟨⟨a0, a1, a2⟩, ⟨a3, a4, a5⟩, ⟨a6, a7, a8⟩⟩ := row9.out w9 hS9
       go_simp
       try with_reducible rfl
      try simp only [Act.put, sA, sB, sC]
      refine takeX 1 (v := ?_) rfl rfl (by kernel_rfl) (fun _ _ _ h => h) (yesH (by rfl) ?_) s0 ?_
      rotate_left
      ·intro w9 hS9
       obtain ⟨⟨a0, a1, a2⟩, ⟨a3, a4, a5⟩, ⟨a6, a7, a8⟩⟩ := row9.out w9 hS9
       go_simp
       try with_reducible rfl
      try simp only [Act.put, sA, sB, sC]
      refine takeX 2 (v := ?_) rfl rfl (by kernel_rfl) (fun _ _ _ h => h) (yesH (by rfl) ?_) s0 ?_
      rotate_left
      ·intro w9 hS9
       obtain ⟨⟨a0, a1, a2⟩, ⟨a3, a4, a5⟩, ⟨a6, a7, a8⟩⟩ := row9.out w9 hS9
       go_simp
       try with_reducible rfl
      try simp only [Act.put, sA, sB, sC]
      refine takeX 3 (v := ?_) rfl rfl (by kernel_rfl) (fun _ _ _ h => h) (yesH (by rfl) ?_) s0 ?_
      rotate_left
      ·intro w9 hS9
       obtain ⟨⟨a0, a1, a2⟩, ⟨a3, a4, a5⟩, ⟨a6, a7, a8⟩⟩ := row9.out w9 hS9
       go_simp
       try with_reducible rfl
      try simp only [Act.put, sA, sB, sC]
      refine readyX 4 rfl (by kernel_rfl) (fun K hK => ?_)
      go_simp
      go_wp2_with fail
      refine PM.mono ?_
      rintro e w11 ⟨rfl, b11'⟩
      have b11 : Below W10.heap.size W10 w11 := undrew b11'
      have HF11 : Hid (FA w.heap.size w11 T d up ub cp cb) := HF10.out.keep b11
      have HG11 : Hid (FA w.heap.size w11 G q f.pu f.bu f.pc f.bc) := HG10.out.keep b11
      have HS11 : Hid (FA w.heap.size w11 U d s.pu s.bu s.pc s.bc) := HS10.out.keep b11
      have HB11 : Hid (Below w.heap.size w w11) := HB10.out.trans (b11.mono HB10.out.size)
      have s11 : (At w11 U #[.slice s.pu d.params.length s.pc, .int .i64 d.ret, .slice s.bu d.blocks.length s.bc] 27 ∧ At w11 T #[.slice up d.params.length cp, .int .i64 d.ret, .slice ub d.blocks.length cb] 27 ∧ At w11 G #[.slice f.pu q.params.length f.pc, .int .i64 q.ret, .slice f.bu q.blocks.length f.bc] 27) := ⟨HS11.out.bx, HF11.out.bx, HG11.out.bx⟩
      clear PM b11 b11' s0 HF10 HG10 HS10 HB10
      refine hK.out _ _ (.inr s11) ?_
      clear hK K
      try simp only [Act.put, sA, sB, sC]
      refine takeX 5 (v := ?_) rfl rfl (by kernel_rfl) (fun _ _ _ h => h) (yesH (by rfl) ?_) s11 ?_
      rotate_left
      ·intro w9 hS9
       obtain ⟨⟨a0, a1, a2⟩, ⟨a3, a4, a5⟩, ⟨a6, a7, a8⟩⟩ := row9.out w9 hS9
       go_simp
       try with_reducible rfl
      try simp only [Act.put, sA, sB, sC]
      refine takeX 6 (v := ?_) rfl rfl (by kernel_rfl) (fun _ _ _ h => h) (yesH (by rfl) ?_) s11 ?_
      rotate_left
      ·intro w9 hS9
       obtain ⟨⟨a0, a1, a2⟩, ⟨a3, a4, a5⟩, ⟨a6, a7, a8⟩⟩ := row9.out w9 hS9
       go_simp
       try with_reducible rfl
      try simp only [Act.put, sA, sB, sC]
      refine takeX 7 (v := ?_) rfl rfl (by kernel_rfl) (fun _ _ _ h => h) (yesH (by rfl) ?_) s11 ?_
      rotate_left
      ·intro w9 hS9
       obtain ⟨⟨a0, a1, a2⟩, ⟨a3, a4, a5⟩, ⟨a6, a7, a8⟩⟩ := row9.out w9 hS9
       go_simp
       try with_reducible rfl
      try simp only [Act.put, sA, sB, sC]
      refine takeX 9 (v := ?_) rfl rfl (by kernel_rfl) (fun _ _ _ h => h) (yesH (by rfl) ?_) s11 ?_
      rotate_left
      ·intro w9 hS9
       obtain ⟨⟨a0, a1, a2⟩, ⟨a3, a4, a5⟩, ⟨a6, a7, a8⟩⟩ := row9.out w9 hS9
       go_simp
       try with_reducible rfl
      try simp only [Act.put, sA, sB, sC]
      have PG := CG.out w11 HG11.out
      refine readyX 8 rfl (by kernel_rfl) (fun K hK => ?_)
      go_simp
      go_wp2_with fail
      refine PG.mono ?_
      rintro e w12 ⟨rfl, b12⟩
      have HF12 : Hid (FA w.heap.size w12 T d up ub cp cb) := HF11.out.keep b12
      have HB12 : Hid (Below w.heap.size w w12) := HB11.out.trans (b12.mono HB11.out.size)
      have s12 : (At w12 U #[.slice s.pu d.params.length s.pc, .int .i64 d.ret, .slice s.bu d.blocks.length s.bc] 27 ∧ At w12 T #[.slice up d.params.length cp, .int .i64 d.ret, .slice ub d.blocks.length cb] 27 ∧ At w12 G #[.slice f.pu q.params.length f.pc, .int .i64 q.ret, .slice f.bu q.blocks.length f.bc] 27) := ⟨HS11.out.bx.below b12, HF12.out.bx, HG11.out.bx.below b12⟩
      clear PG b12 s11 HF11 HG11 HS11 HB11
      refine hK.out _ _ (.inr s12) ?_
      clear hK K
      try simp only [Act.put, sA, sB, sC]
      have PF := CF.out w12 HF12.out
      refine readyX 10 rfl (by kernel_rfl) (fun K hK => ?_)
      go_simp
      go_wp2_with fail
      refine PF.mono ?_
      rintro e w13 ⟨rfl, b13⟩
      have HB13 : Hid (Below w.heap.size w w13) := HB12.out.trans (b13.mono HB12.out.size)
      have s13 : (At w13 U #[.slice s.pu d.params.length s.pc, .int .i64 d.ret, .slice s.bu d.blocks.length s.bc] 27 ∧ At w13 T #[.slice up d.params.length cp, .int .i64 d.ret, .slice ub d.blocks.length cb] 27 ∧ At w13 G #[.slice f.pu q.params.length f.pc, .int .i64 q.ret, .slice f.bu q.blocks.length f.bc] 27) := ⟨s12.1.below b13, s12.2.1.below b13, s12.2.2.below b13⟩
      clear PF b13 s12 HF12 HB12
      refine hK.out _ _ (.inr s13) ?_
      clear hK K
      try simp only [Act.put, sA, sB, sC]
      refine takeX 11 (v := .bool true) rfl rfl (by kernel_rfl) (fun _ _ _ h => h) (yesH (by rfl) ?_) s13 ?_
      ·intro w9 hS9
       obtain ⟨⟨a0, a1, a2⟩, ⟨a3, a4, a5⟩, ⟨a6, a7, a8⟩⟩ := row9.out w9 hS9
       go_simp
       try simp
      try simp only [Act.put, sA, sB, sC]
      refine takeX 12 (v := ?_) rfl rfl (by kernel_rfl) (fun _ _ _ h => h) (yesH (by rfl) ?_) s13 ?_
      rotate_left
      ·intro w9 hS9
       obtain ⟨⟨a0, a1, a2⟩, ⟨a3, a4, a5⟩, ⟨a6, a7, a8⟩⟩ := row9.out w9 hS9
       go_simp
       try with_reducible rfl
      try simp only [Act.put, sA, sB, sC]
      refine takeX 13 (v := ?_) rfl rfl (by kernel_rfl) (fun _ _ _ h => h) (yesH (by rfl) ?_) s13 ?_
      rotate_left
      ·intro w9 hS9
       obtain ⟨⟨a0, a1, a2⟩, ⟨a3, a4, a5⟩, ⟨a6, a7, a8⟩⟩ := row9.out w9 hS9
       go_simp
       try with_reducible rfl
      try simp only [Act.put, sA, sB, sC]
      clear s13 row9
      refine doneX (by kernel_rfl) ?_ _
      go_wp2_with fail
      go_ret
      exact ⟨rfl, HB13.out⟩
end Go.Proofs.YtenbodghkpbghaaDoor
namespace Go.Proofs.YtenbodghkpbghaaDoor
open Go.ChangeShapes Go.WideShapes Go.RowKit
set_option linter.unusedVariables false
theorem gC : Tryd.prog.globalNamed "loop.example/g00457/impl.errUnread" = some 0 := by kernel_rfl
theorem tC : (Tryd.prog.globals[0]?).map (·.type) = some 163 := by kernel_rfl
theorem lcES : Tryd.prog.cellsOf 181 = 1 := by kernel_rfl
theorem lcS : Tryd.prog.cellsOf 9 = 1 := by kernel_rfl
theorem lstar : "*" ++ "errors.errorString" = "*errors.errorString" := by decide
theorem lrow (u : TypeId) (h : Tryd.prog.typeName? 3 u = some "*errors.errorString") : u = 164 :=
 typeName_ptr_named (nm := "errors.errorString") (by rw [lstar]; kernel_rfl) (by kernel_rfl) (by decide) u (by rw [lstar]; exact h)
def errV (a : Addr) : Value := .iface 164 (.pointer (some a))
theorem var_below {W W' : World} {n : String} {g : Nat} {cs : Array Value} (hg : Tryd.prog.globalNamed n = some g) (h : W.var? Tryd.prog n = some cs) (k : Below W.heap.size W W') : W'.var? Tryd.prog n = some cs := by
 unfold World.var? at h ⊢
 simp only [hg, Option.bind_some] at h ⊢
 have hlt : g < W.heap.size := by
  rcases Nat.lt_or_ge g W.heap.size with h' | h'
  ·exact h'
  ·simp [Array.getElem?_eq_none h'] at h
 rw [k.block g hlt]
 exact h
theorem vars_cons {H : Type} (enc : TypeId × Value → H) {W : World} {n : String} {g : Nat} {x : Value} {ns : List String} {ds : List (DataW H)} {qs : List MemPlace} {sp : Nat → Bool}
  (hg : Tryd.prog.globalNamed n = some g) (ht : (Tryd.prog.globals[g]?).map (·.type) = some 163) (h : W.var? Tryd.prog n = some #[x]) (ix : IsIface x) (r : DataW.TrodVars enc Tryd.prog W sp ns ds qs) :
  DataW.TrodVars enc Tryd.prog W sp (n :: ns) (tok enc x :: ds) (.cell g 0 :: qs) :=
 ⟨g, 163, #[x], 1, [], qs, hg, ht, h, trod_held Tryd.underlying163 ix 0, r, rfl⟩
structure LaidC (W : World) (aC : Addr) : Prop where
 c : W.var? Tryd.prog "loop.example/g00457/impl.errUnread" = some #[errV aC]
theorem LaidC.keep {W W' : World} {aC : Addr} (h : LaidC W aC) (k : Below W.heap.size W W') : LaidC W' aC := ⟨var_below gC h.c k⟩
theorem LaidC.read {H : Type} (enc : TypeId × Value → H) {W : World} {aC : Addr} (h : LaidC W aC) (sp : Nat → Bool) :
  DataW.TrodVars enc Tryd.prog W sp ["loop.example/g00457/impl.errUnread"] [tok enc (errV aC)] [.cell 0 0] :=
 vars_cons enc gC tC h.c trivial rfl
set_option maxHeartbeats 4000000 in
set_option maxRecDepth 100000 in
theorem cnt_of_laid {W : World} (h : laidMetH Tryd.prog [("loop.example/g00457/impl.errUnread", Rows.laid_loop_example_g00457_impl_errUnread)] W) : ∃ aC, LaidC W aC := by
 rw [MakeChecks.laidMetH_plain _ _ _ (by kernel_rfl)] at h
 obtain ⟨ps, ⟨g0, t0, cs0, f0, p0, q0, hg0, ht0, hv0, hd0, hq0, e0⟩, hnd, hrows⟩ := h
 obtain rfl := Option.some.inj (gC.symm.trans hg0)
 obtain rfl := Option.some.inj (tC.symm.trans ht0)
 have hq0' : q0 = [] := hq0
 subst hq0'
 subst e0
 obtain ⟨l0⟩ := cs0
 have ok0 : ∀ u v, l0 = [.iface u v] → Value.okWide Tryd.prog W .any 0 u v := fun u v e => by
  subst e
  exact (hrows 0 0 (by simp [MemPlace.row])).2 u v (by simpa using World.var?_cell hg0 hv0 0)
 obtain ⟨a0, s0, rfl, hc0, hs0, hz0, rfl⟩ := errorString_of_trod Tryd.underlying163 lrow Tryd.underlying164 Tryd.underlying181 rfl rfl Tryd.underlying9 lcES lcS hd0 ok0
 exact ⟨a0, ⟨hv0⟩⟩
theorem door_metC (os : Os) (args : Array Value) : laidMetH Tryd.prog [("loop.example/g00457/impl.errUnread", Rows.laid_loop_example_g00457_impl_errUnread)] ((World.doorLaid Tryd.prog 28 os).forCall (fun _ _ => 0) ⟨#[], args, []⟩).memory := by
 rw [MakeChecks.laidMetH_plain _ _ _ (by kernel_rfl)]
 exact laidMet_of_run' 8 (by kernel_rfl) (by kernel_rfl)
end Go.Proofs.YtenbodghkpbghaaDoor
