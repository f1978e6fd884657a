import Derived.Test.YtgojlnclpebdcaaGreatDoorMemR
import Derived.Test.YtgojlnclpebdcaaGreatDoorMd3rR
import Derived.Deep.RegionHeld2
namespace Go.Proofs.YtgojlnclpebdcaaGreatDoor
open Go.RowKit
set_option linter.unusedVariables false
set_option linter.unusedSimpArgs false
theorem yieldsIf_row {P : Program} {ops : Array Oper} {S : World → Prop} {op : Oper} {a : Act} (hw : Region.wanted op (yielded ops a.tmps) = true) (ty : TypeId) (x : Operand) (ho : op.op = .load ty x)
  (g : Nat) (hx : a.eval x = .pointer (some ⟨g, 0, none⟩)) (t : TypeId) (cs : Array Value) (fr : Nat × Nat) (d : TypeDesc) (hS : ∀ w, S w → w.heap[g]? = some (.cells cs t fr))
  (hu : P.underlying ty = some d) (hd : (match d with | .struct _ | .array _ _ => true | _ => false) = true) (hi : (P.info? ty).map (·.size) = some cs.size) : YieldsIf P ops S op (.agg cs) a :=
 .inl ⟨hw, fun w h => by
  unfold execOp
  simp only [ho, hx, Instr.loadAt, Instr.sureAddr, Sem.run_bind, Sem.run_pure, Result.andThen_ok, run_loadVar_row w g t ty cs fr d (hS w h) hu hd hi]⟩
set_option maxHeartbeats 1000000 in
theorem endI (x : BlockD) (v0 : Option Addr) (q0 : Nat) (v1 : Option Addr) (q1 : Nat) (w : World) (h0 : x.phis.length ≤ 1048576) (h1 : x.insts.length ≤ 1048576) :
  Calls Tryz.prog 125 #[.agg #[.slice v0 x.phis.length q0, .slice v1 x.insts.length q1, .int .i64 x.term.kind, .int .i64 x.term.a, .int .i64 x.term.x, .int .i64 x.term.y]] w fun e w' => e = .returned (.int .i64 (endN x)) ∧ Below w.heap.size w w' := by
 have E : Hid ((x.phis.length : Int) + x.insts.length = endN x) := (by show _ = _; rfl)
 go_enter Tryz.func125, Tryz.ntmps125
 go_wp2_with fail
 go_ret
 exact ⟨ret_i E.out, (Below.refl _ _).alloc (Nat.le_refl _) _⟩
set_option maxHeartbeats 4000000 in
set_option maxRecDepth 100000 in
theorem allOfI (lo : Nat) (d : FuncD) (u0 : Option Addr) (c0 : Nat) (u2 : Option Addr) (c2 : Nat) (sv : Array Value) (funcs : Int) (b : Nat) (w : World) (hs : SmFunc d) (k2 : BlocksAt w lo u2 d.blocks) (hF : Form funcs d) (hv : Sv d u0 c0 u2 c2 sv) (hb : b < d.blocks.length) :
  Calls Tryz.prog 86 #[.agg sv, .int .i64 (b : Int)] w fun e w' => (∃ v, e = .returned (.bool v) ∧ (v = true ↔ SeesIn d b)) ∧ Below w.heap.size w w' := by
 have HS : Hid (SmFunc d) := hs
 have HF : Hid (Form funcs d) := hF
 have HV : Hid (Sv d u0 c0 u2 c2 sv) := hv
 have hsz := hv.size
 have s2 := hv.s2
 have hb10 : b < 10 := by have := hF.b10; omega
 have hbl := hF.b10
 have HK2 : Hid (BlocksAt w lo u2 d.blocks) := k2
 have SI : Hid (SeesIn d b ↔ (∀ k, k < (d.blocks.getD b block0).insts.length → ∀ id ∈ opsD ((d.blocks.getD b block0).insts.getD k inst0), Sees d id b ((d.blocks.getD b block0).phis.length + k)) ∧ (∀ id ∈ namesT (d.blocks.getD b block0).term, Sees d id b (endN (d.blocks.getD b block0)))) := Iff.rfl
 have hfb := hF.at hb
 have hsm := hs.2.2 _ (getD_mem block0 d.blocks b hb)
 rcases k2.2 with hn | ⟨bb, off, rfl, hlo, hbb, hcell⟩
 ·simp [hn] at hb
 obtain ⟨⟨v0, q0, h0, m0⟩, ⟨v1, q1, h1, m1⟩, h2, h3, h4, h5⟩ := hcell b hb
 generalize d.blocks.getD b block0 = x at h0 h1 h2 h3 h4 h5 m0 m1 hsm hfb SI
 have HFB : Hid (FBlk (cntF d) d.blocks.length funcs x) := hfb
 have hc60 := hF.c60
 have s0 := hsm.1.1
 have s1 := hsm.2.1
 have SN : Hid (∀ p ∈ x.insts, SmInst p) := hsm.2.2
 have hB0 : Below w.heap.size w (w.alloc (.cells sv 148)) := (Below.refl _ _).alloc (Nat.le_refl _) _
 have a2 : (w.alloc (.cells sv 148)).cell? ⟨w.heap.size, 2, none⟩ = some (.slice (some ⟨bb, off, none⟩) d.blocks.length c2) := (cell_of_heap (heap_alloc_last _ _)).trans s2
 have HH0 : Hid ((w.alloc (.cells sv 148)).heap[w.heap.size]? = some (.cells sv 148 (0, 0))) := heap_alloc_last _ _
 clear hs hF hv k2 hsm hfb m0 hcell
 go_enter Tryz.func86, Tryz.ntmps86
 go_wp2_with fail
 go_loopw [6, 17] (fun _ i wr => ∃ k : Nat, k ≤ x.insts.length ∧ i = .int .i64 k ∧ Hid (∀ j, j < k → ∀ id ∈ opsD (x.insts.getD j inst0), Sees d id b (x.phis.length + j)) ∧ Hid (Below (w.heap.size + 1 + 1) ((w.alloc (.cells sv 148)).alloc (.cells #[.slice v0 x.phis.length q0, .slice v1 x.insts.length q1, .int .i64 x.term.kind, .int .i64 x.term.a, .int .i64 x.term.x, .int .i64 x.term.y] 43)) wr)) (fun _ i _ => x.insts.length - (intOf i).toNat)
 case atStart => exact ⟨0, by omega, rfl, fun j hj => by omega, Below.refl _ _⟩
 case round =>
  obtain ⟨k, hk, rfl, HD, HB⟩ := hrel
  clear h0 h1 h2 h3 h4 h5 a2 s2
  obtain ⟨wo, hwo⟩ : ∃ wo, wo = wr := ⟨_, rfl⟩
  subst hwo
  have hW : Below w.heap.size w wo := (hB0.alloc (by simp) _).trans (HB.out.mono (by omega))
  have hz : w.heap.size + 1 + 1 ≤ wo.heap.size := by have := HB.out.size; simp at this; omega
  have hrow : wo.heap[w.heap.size]? = some (.cells sv 148 (0, 0)) := (HB.out.block _ (by omega)).trans ((Below.heap_alloc _ _ _ (by simp)).trans HH0.out)
  have hblk : wo.heap[w.heap.size + 1]? = some (.cells #[.slice v0 x.phis.length q0, .slice v1 x.insts.length q1, .int .i64 x.term.kind, .int .i64 x.term.a, .int .i64 x.term.x, .int .i64 x.term.y] 43 (0, 0)) := (HB.out.block _ (by omega)).trans (heap_two _ _ _)
  have HW : Hid (Below w.heap.size w wo) := hW
  by_cases hlt : k < x.insts.length
  ·rcases m1.2 with hn | ⟨pb, po, rfl, hplo, hpb, hpc⟩
   ·simp [hn] at hlt
   obtain ⟨i0, i1, i2, i3, i4, i5, ⟨iu, iq, i6, im⟩⟩ := hpc k hlt
   have HOPS : Hid (∀ id ∈ opsD (x.insts.getD k inst0), 0 ≤ id ∧ id < (cntF d : Int)) := HFB.out.ops _ (getD_mem inst0 x.insts k hlt)
   have hsmI : SmInst (x.insts.getD k inst0) := SN.out _ (getD_mem inst0 x.insts k hlt)
   have NO : Hid ((¬ ∀ id ∈ opsD (x.insts.getD k inst0), Sees d id b (x.phis.length + k)) → ¬ SeesIn d b) := fun h h2 => h ((SI.out.1 h2).1 k hlt)
   have YS : Hid ((∀ id ∈ opsD (x.insts.getD k inst0), Sees d id b (x.phis.length + k)) → ∀ j, j < k + 1 → ∀ id ∈ opsD (x.insts.getD j inst0), Sees d id b (x.phis.length + j)) := fun h j hj => by
    by_cases e : j = k
    ·subst e; exact h
    ·exact HD.out j (by omega)
   generalize x.insts.getD k inst0 = p at i0 i1 i2 i3 i4 i5 i6 im HOPS NO YS hsmI
   have hsmA : p.args.length ≤ 1048576 := hsmI
   have f0 : wo.cell? ⟨pb, po + k * 7, none⟩ = some (.int .i64 p.op) := (bcell hW _ _ hpb).trans i0
   have f1 : wo.cell? ⟨pb, po + k * 7 + 1, none⟩ = some (.int .i64 p.w) := (bcell hW _ _ hpb).trans i1
   have f2 : wo.cell? ⟨pb, po + k * 7 + 2, none⟩ = some (.int .i64 p.a) := (bcell hW _ _ hpb).trans i2
   have f3 : wo.cell? ⟨pb, po + k * 7 + 3, none⟩ = some (.int .i64 p.b) := (bcell hW _ _ hpb).trans i3
   have f4 : wo.cell? ⟨pb, po + k * 7 + 4, none⟩ = some (.int .i64 p.c) := (bcell hW _ _ hpb).trans i4
   have f5 : wo.cell? ⟨pb, po + k * 7 + 5, none⟩ = some (.int .i64 p.imm) := (bcell hW _ _ hpb).trans i5
   have f6 : wo.cell? ⟨pb, po + k * 7 + 6, none⟩ = some (.slice iu p.args.length iq) := (bcell hW _ _ hpb).trans i6
   have HIM : Hid (IntsAt wo lo iu p.args) := im.keep (agree_of_below hW lo)
   clear hpc i0 i1 i2 i3 i4 i5 i6 im hsmI HD hW m1
   go_wp2_with fail
   clear f0 f1 f2 f3 f4 f5 f6
   have hB6 : Below wo.heap.size wo (wo.alloc (.cells #[.int .i64 p.op, .int .i64 p.w, .int .i64 p.a, .int .i64 p.b, .int .i64 p.c, .int .i64 p.imm, .slice iu p.args.length iq] 54)) := (Below.refl _ _).alloc (Nat.le_refl _) _
   have ins : (wo.alloc (.cells #[.int .i64 p.op, .int .i64 p.w, .int .i64 p.a, .int .i64 p.b, .int .i64 p.c, .int .i64 p.imm, .slice iu p.args.length iq] 54)).heap[wo.heap.size]? = some (.cells #[.int .i64 p.op, .int .i64 p.w, .int .i64 p.a, .int .i64 p.b, .int .i64 p.c, .int .i64 p.imm, .slice iu p.args.length iq] 54 (0, 0)) := heap_alloc_last _ _
   have hy : wo.heap.size < (wo.alloc (.cells #[.int .i64 p.op, .int .i64 p.w, .int .i64 p.a, .int .i64 p.b, .int .i64 p.c, .int .i64 p.imm, .slice iu p.args.length iq] 54)).heap.size := by simp
   generalize wo.alloc (.cells #[.int .i64 p.op, .int .i64 p.w, .int .i64 p.a, .int .i64 p.b, .int .i64 p.c, .int .i64 p.imm, .slice iu p.args.length iq] 54) = w6 at hB6 ins hy ⊢
   have rw6 : w6.heap[w.heap.size]? = some (.cells sv 148 (0, 0)) := (hB6.block _ (by omega)).trans hrow
   have bk6 := (hB6.block (w.heap.size + 1) (by omega)).trans hblk
   have HB6 : Hid (Below wo.heap.size wo w6) := hB6
   clear hB6 hrow hblk
   have hwr : IntKind.i64.wrap ((x.phis.length : Int) + (k : Int)) = x.phis.length + k := by rw [IntKind.wrap_i64]; omega
   by_cases hq : ∀ id ∈ opsD p, Sees d id b (x.phis.length + k)
   ·have HQ : Hid (∀ id ∈ opsD p, Sees d id b (x.phis.length + k)) := hq
    clear hq
    refine wp_region_held_drew (S := fun w' => Below w6.heap.size w6 w') (by kernel_rfl) ((Below.refl _ _).drew) (fun hHeld => ?_)
    refine tkh 0 (v := .agg sv) rfl rfl (by kernel_rfl) (fun _ _ _ h => h) (yieldsIf_row (by rfl) 148 _ rfl w.heap.size rfl 148 sv (0, 0) _ (fun w9 hS9 => (hS9.block _ (by omega)).trans rw6) Tryz.underlying148 rfl (by rw [infoS, hsz])) hHeld ?_
    simp only [sA, sB, sC]
    refine tkh 1 (v := ?_) rfl rfl (by kernel_rfl) (fun _ _ _ h => h) (yesH (by rfl) ?_) hHeld ?_
    rotate_left
    ·intro w9 hS9
     have g0 := (cell_of_heap (o := 0) ((hS9.block _ hy).trans ins)).trans rfl
     have g1 := (cell_of_heap (o := 1) ((hS9.block _ hy).trans ins)).trans rfl
     have g2 := (cell_of_heap (o := 2) ((hS9.block _ hy).trans ins)).trans rfl
     have g3 := (cell_of_heap (o := 3) ((hS9.block _ hy).trans ins)).trans rfl
     have g4 := (cell_of_heap (o := 4) ((hS9.block _ hy).trans ins)).trans rfl
     have g5 := (cell_of_heap (o := 5) ((hS9.block _ hy).trans ins)).trans rfl
     have g6 := (cell_of_heap (o := 6) ((hS9.block _ hy).trans ins)).trans rfl
     go_simp
     try with_reducible rfl
    simp only [sA, sB, sC]
    refine tkh 3 (v := ?_) rfl rfl (by kernel_rfl) (fun _ _ _ h => h) (yesH (by rfl) ?_) hHeld ?_
    rotate_left
    ·intro w9 hS9
     go_simp
     try with_reducible rfl
    simp only [sA, sB, sC]
    refine tkh 4 (v := ?_) rfl rfl (by kernel_rfl) (fun _ _ _ h => h) (yesH (by rfl) ?_) hHeld ?_
    rotate_left
    ·intro w9 hS9
     go_simp
     try with_reducible rfl
    simp only [sA, sB, sC]
    refine tkh 5 (v := ?_) rfl rfl (by kernel_rfl) (fun _ _ _ h => h) (yesH (by rfl) ?_) hHeld ?_
    rotate_left
    ·intro w9 hS9
     have g0 := (cell_of_heap (o := 0) ((hS9.block (w.heap.size + 1) (by omega)).trans bk6)).trans rfl
     go_simp
     try with_reducible rfl
    simp only [sA, sB, sC]
    refine tkh 6 (v := ?_) rfl rfl (by kernel_rfl) (fun _ _ _ h => h) (yesH (by rfl) ?_) hHeld ?_
    rotate_left
    ·intro w9 hS9
     go_simp
     try with_reducible rfl
    simp only [sA, sB, sC]
    refine tkh 7 (v := ?_) rfl rfl (by kernel_rfl) (fun _ _ _ h => h) (yesH (by rfl) ?_) hHeld ?_
    rotate_left
    ·intro w9 hS9
     go_simp
     try with_reducible rfl
    simp only [sA, sB, sC]
    refine tkh 8 (v := ?_) rfl rfl (by kernel_rfl) (fun _ _ _ h => h) (yesH (by rfl) ?_) hHeld ?_
    rotate_left
    ·intro w9 hS9
     go_simp
     try with_reducible rfl
    simp only [sA, sB, sC]
    refine wpAnyH_ready (rs := [2]) (by kernel_rfl) (by simp) ?_
    refine AllReadyH.cons rfl (fun K hK => ?_) AllReadyH.nil
    go_simp
    go_wp2_with (go_at_call 21; refine (operI lo p _ _ _ hsmA (HIM.out.keep (agree_of_below (HB6.out.trans (hHeld.mono (by omega))) _))).mono ?_; rintro e w7 ⟨ov, oc, rfl, ho7, hb7⟩; have hb7s := hHeld.trans (hb7.mono hHeld.size); have hz7 := hHeld.size)
    refine hK.out _ _ ?_ (fun hHeld2 => ?_)
    ·exact hb7s
    clear hK K hHeld
    have hHeld := hHeld2
    clear hHeld2
    try simp only [Act.put, sA, sB, sC]
    refine wpAnyH_ready (rs := [9]) (by kernel_rfl) (by simp) ?_
    refine AllReadyH.cons rfl (fun K hK => ?_) AllReadyH.nil
    go_simp
    go_wp2_with (go_at_call 123; refine (seesAllI (min lo w6.heap.size) d u0 c0 (some ⟨bb, off, none⟩) c2 sv (opsD p) ov oc b _ _ HS.out ((HK2.out.keep (agree_of_below (HW.out.trans ((HB6.out.trans (hb7s.mono (by omega))).mono HW.out.size)) _)).low (Nat.min_le_left _ _)) (ho7.ints.low (Nat.le_trans (Nat.min_le_right _ _) hz7)) HF.out.right HV.out (fun id hid => by have := HOPS.out id hid; omega) (opsD_len p hsmA) hb10).mono ?_; rintro e w8 ⟨⟨v8, rfl, hq8⟩, hb8'⟩; have hb8 := hb7s.trans (hb8'.mono hb7s.size); have hv8 : v8 = true := hq8.2 HQ.out; subst hv8; clear hq8)
    refine hK.out _ _ ?_ (fun hHeld2 => ?_)
    ·exact hb8
    clear hK K hHeld
    have hHeld := hHeld2
    clear hHeld2
    try simp only [Act.put, sA, sB, sC]
    refine tkh 10 (v := ?_) rfl rfl (by kernel_rfl) (fun _ _ _ h => h) (yesH (by rfl) ?_) hHeld ?_
    rotate_left
    ·intro w9 hS9
     go_simp
     try with_reducible rfl
    simp only [sA, sB, sC]
    refine wpAnyH_done (by kernel_rfl) ?_ _
    go_wp2_with fail
    go_roundw
    case rel => exact ⟨k + 1, by omega, by go_num, YS.out HQ.out, HB.out.trans ((HB6.out.trans (hb8.mono (by omega))).mono (by omega))⟩
    case measure => simp [intOf]; omega
   ·have HQ : Hid (¬ ∀ id ∈ opsD p, Sees d id b (x.phis.length + k)) := hq
    clear hq
    refine wp_region_held_drew (S := fun w' => Below w6.heap.size w6 w') (by kernel_rfl) ((Below.refl _ _).drew) (fun hHeld => ?_)
    refine tkh 0 (v := .agg sv) rfl rfl (by kernel_rfl) (fun _ _ _ h => h) (yieldsIf_row (by rfl) 148 _ rfl w.heap.size rfl 148 sv (0, 0) _ (fun w9 hS9 => (hS9.block _ (by omega)).trans rw6) Tryz.underlying148 rfl (by rw [infoS, hsz])) hHeld ?_
    simp only [sA, sB, sC]
    refine tkh 1 (v := ?_) rfl rfl (by kernel_rfl) (fun _ _ _ h => h) (yesH (by rfl) ?_) hHeld ?_
    rotate_left
    ·intro w9 hS9
     have g0 := (cell_of_heap (o := 0) ((hS9.block _ hy).trans ins)).trans rfl
     have g1 := (cell_of_heap (o := 1) ((hS9.block _ hy).trans ins)).trans rfl
     have g2 := (cell_of_heap (o := 2) ((hS9.block _ hy).trans ins)).trans rfl
     have g3 := (cell_of_heap (o := 3) ((hS9.block _ hy).trans ins)).trans rfl
     have g4 := (cell_of_heap (o := 4) ((hS9.block _ hy).trans ins)).trans rfl
     have g5 := (cell_of_heap (o := 5) ((hS9.block _ hy).trans ins)).trans rfl
     have g6 := (cell_of_heap (o := 6) ((hS9.block _ hy).trans ins)).trans rfl
     go_simp
     try with_reducible rfl
    simp only [sA, sB, sC]
    refine tkh 3 (v := ?_) rfl rfl (by kernel_rfl) (fun _ _ _ h => h) (yesH (by rfl) ?_) hHeld ?_
    rotate_left
    ·intro w9 hS9
     go_simp
     try with_reducible rfl
    simp only [sA, sB, sC]
    refine tkh 4 (v := ?_) rfl rfl (by kernel_rfl) (fun _ _ _ h => h) (yesH (by rfl) ?_) hHeld ?_
    rotate_left
    ·intro w9 hS9
     go_simp
     try with_reducible rfl
    simp only [sA, sB, sC]
    refine tkh 5 (v := ?_) rfl rfl (by kernel_rfl) (fun _ _ _ h => h) (yesH (by rfl) ?_) hHeld ?_
    rotate_left
    ·intro w9 hS9
     have g0 := (cell_of_heap (o := 0) ((hS9.block (w.heap.size + 1) (by omega)).trans bk6)).trans rfl
     go_simp
     try with_reducible rfl
    simp only [sA, sB, sC]
    refine tkh 6 (v := ?_) rfl rfl (by kernel_rfl) (fun _ _ _ h => h) (yesH (by rfl) ?_) hHeld ?_
    rotate_left
    ·intro w9 hS9
     go_simp
     try with_reducible rfl
    simp only [sA, sB, sC]
    refine tkh 7 (v := ?_) rfl rfl (by kernel_rfl) (fun _ _ _ h => h) (yesH (by rfl) ?_) hHeld ?_
    rotate_left
    ·intro w9 hS9
     go_simp
     try with_reducible rfl
    simp only [sA, sB, sC]
    refine tkh 8 (v := ?_) rfl rfl (by kernel_rfl) (fun _ _ _ h => h) (yesH (by rfl) ?_) hHeld ?_
    rotate_left
    ·intro w9 hS9
     go_simp
     try with_reducible rfl
    simp only [sA, sB, sC]
    refine wpAnyH_ready (rs := [2]) (by kernel_rfl) (by simp) ?_
    refine AllReadyH.cons rfl (fun K hK => ?_) AllReadyH.nil
    go_simp
    go_wp2_with (go_at_call 21; refine (operI lo p _ _ _ hsmA (HIM.out.keep (agree_of_below (HB6.out.trans (hHeld.mono (by omega))) _))).mono ?_; rintro e w7 ⟨ov, oc, rfl, ho7, hb7⟩; have hb7s := hHeld.trans (hb7.mono hHeld.size); have hz7 := hHeld.size)
    refine hK.out _ _ ?_ (fun hHeld2 => ?_)
    ·exact hb7s
    clear hK K hHeld
    have hHeld := hHeld2
    clear hHeld2
    try simp only [Act.put, sA, sB, sC]
    refine wpAnyH_ready (rs := [9]) (by kernel_rfl) (by simp) ?_
    refine AllReadyH.cons rfl (fun K hK => ?_) AllReadyH.nil
    go_simp
    go_wp2_with (go_at_call 123; refine (seesAllI (min lo w6.heap.size) d u0 c0 (some ⟨bb, off, none⟩) c2 sv (opsD p) ov oc b _ _ HS.out ((HK2.out.keep (agree_of_below (HW.out.trans ((HB6.out.trans (hb7s.mono (by omega))).mono HW.out.size)) _)).low (Nat.min_le_left _ _)) (ho7.ints.low (Nat.le_trans (Nat.min_le_right _ _) hz7)) HF.out.right HV.out (fun id hid => by have := HOPS.out id hid; omega) (opsD_len p hsmA) hb10).mono ?_; rintro e w8 ⟨⟨v8, rfl, hq8⟩, hb8'⟩; have hb8 := hb7s.trans (hb8'.mono hb7s.size); have hv8 : v8 = false := (by cases v8 with | true => exact absurd (hq8.1 rfl) HQ.out | false => rfl); subst hv8; clear hq8)
    refine hK.out _ _ ?_ (fun hHeld2 => ?_)
    ·exact hb8
    clear hK K hHeld
    have hHeld := hHeld2
    clear hHeld2
    try simp only [Act.put, sA, sB, sC]
    refine tkh 10 (v := ?_) rfl rfl (by kernel_rfl) (fun _ _ _ h => h) (yesH (by rfl) ?_) hHeld ?_
    rotate_left
    ·intro w9 hS9
     go_simp
     try with_reducible rfl
    simp only [sA, sB, sC]
    refine wpAnyH_done (by kernel_rfl) ?_ _
    go_wp2_with fail
    go_ret
    exact ⟨⟨_, rfl, ⟨fun h => (by cases h), fun h => absurd h (NO.out HQ.out)⟩⟩, HW.out.trans ((HB6.out.trans (hb8.mono (by omega))).mono HW.out.size)⟩
  ·have ALL : Hid (∀ k, k < x.insts.length → ∀ id ∈ opsD (x.insts.getD k inst0), Sees d id b (x.phis.length + k)) := fun j hj => HD.out j (by omega)
   have HTN : Hid (∀ id ∈ namesT x.term, 0 ≤ id ∧ id < (1000000 : Int)) := fun id hid => by
    unfold namesT at hid
    split at hid
    ·rename_i hk
     obtain rfl := List.mem_singleton.1 hid
     have := Form.term_a HFB.out hk
     omega
    ·cases hid
   have hnl : (namesT x.term).length ≤ 1048576 := by unfold namesT; split <;> simp
   clear hW HD m1
   go_wp2_with fail
   refine wp_region_held_drew (S := fun w' => Below wo.heap.size wo w') (by kernel_rfl) ((Below.refl _ _).drew) (fun hHeld => ?_)
   refine tkh 0 (v := .agg sv) rfl rfl (by kernel_rfl) (fun _ _ _ h => h) (yieldsIf_row (by rfl) 148 _ rfl w.heap.size rfl 148 sv (0, 0) _ (fun w9 hS9 => (hS9.block _ (by omega)).trans hrow) Tryz.underlying148 rfl (by rw [infoS, hsz])) hHeld ?_
   simp only [sA, sB, sC]
   refine tkh 1 (v := ?_) rfl rfl (by kernel_rfl) (fun _ _ _ h => h) (yesH (by rfl) ?_) hHeld ?_
   rotate_left
   ·intro w9 hS9
    go_simp
    try with_reducible rfl
   simp only [sA, sB, sC]
   refine tkh 2 (v := ?_) rfl rfl (by kernel_rfl) (fun _ _ _ h => h) (yesH (by rfl) ?_) hHeld ?_
   rotate_left
   ·intro w9 hS9
    have g0 := (cell_of_heap (o := 0) ((hS9.block (w.heap.size + 1) (by omega)).trans hblk)).trans rfl
    have g1 := (cell_of_heap (o := 1) ((hS9.block (w.heap.size + 1) (by omega)).trans hblk)).trans rfl
    have g2 := (cell_of_heap (o := 2) ((hS9.block (w.heap.size + 1) (by omega)).trans hblk)).trans rfl
    have g3 := (cell_of_heap (o := 3) ((hS9.block (w.heap.size + 1) (by omega)).trans hblk)).trans rfl
    have g4 := (cell_of_heap (o := 4) ((hS9.block (w.heap.size + 1) (by omega)).trans hblk)).trans rfl
    have g5 := (cell_of_heap (o := 5) ((hS9.block (w.heap.size + 1) (by omega)).trans hblk)).trans rfl
    go_simp
    try with_reducible rfl
   simp only [sA, sB, sC]
   refine tkh 4 (v := ?_) rfl rfl (by kernel_rfl) (fun _ _ _ h => h) (yesH (by rfl) ?_) hHeld ?_
   rotate_left
   ·intro w9 hS9
    go_simp
    try with_reducible rfl
   simp only [sA, sB, sC]
   refine tkh 5 (v := ?_) rfl rfl (by kernel_rfl) (fun _ _ _ h => h) (yesH (by rfl) ?_) hHeld ?_
   rotate_left
   ·intro w9 hS9
    have g0 := (cell_of_heap (o := 0) ((hS9.block (w.heap.size + 1) (by omega)).trans hblk)).trans rfl
    have g1 := (cell_of_heap (o := 1) ((hS9.block (w.heap.size + 1) (by omega)).trans hblk)).trans rfl
    have g2 := (cell_of_heap (o := 2) ((hS9.block (w.heap.size + 1) (by omega)).trans hblk)).trans rfl
    have g3 := (cell_of_heap (o := 3) ((hS9.block (w.heap.size + 1) (by omega)).trans hblk)).trans rfl
    have g4 := (cell_of_heap (o := 4) ((hS9.block (w.heap.size + 1) (by omega)).trans hblk)).trans rfl
    have g5 := (cell_of_heap (o := 5) ((hS9.block (w.heap.size + 1) (by omega)).trans hblk)).trans rfl
    go_simp
    try with_reducible rfl
   simp only [sA, sB, sC]
   refine wpAnyH_ready (rs := [3]) (by kernel_rfl) (by simp) ?_
   refine AllReadyH.cons rfl (fun K hK => ?_) AllReadyH.nil
   go_simp
   go_wp2_with (go_at_call 124; refine (termI x.term _).mono ?_; rintro e w7 ⟨ov, oc, rfl, ho7, hb7⟩; have hb7s := hHeld.trans (hb7.mono hHeld.size); have hz7 := hHeld.size)
   refine hK.out _ _ ?_ (fun hHeld2 => ?_)
   ·exact hb7s
   clear hK K hHeld
   have hHeld := hHeld2
   clear hHeld2
   try simp only [Act.put, sA, sB, sC]
   refine wpAnyH_ready (rs := [6]) (by kernel_rfl) (by simp) ?_
   refine AllReadyH.cons rfl (fun K hK => ?_) AllReadyH.nil
   go_simp
   go_wp2_with (go_at_call 125; refine (endI x _ _ _ _ _ s0 s1).mono ?_; rintro e w75 ⟨rfl, hb75⟩; have hb75s := hb7s.trans (hb75.mono hb7s.size))
   refine hK.out _ _ ?_ (fun hHeld2 => ?_)
   ·exact hb75s
   clear hK K hHeld
   have hHeld := hHeld2
   clear hHeld2
   try simp only [Act.put, sA, sB, sC]
   refine wpAnyH_ready (rs := [7]) (by kernel_rfl) (by simp) ?_
   refine AllReadyH.cons rfl (fun K hK => ?_) AllReadyH.nil
   go_simp
   go_wp2_with (go_at_call 123; refine (seesAllI (min lo wo.heap.size) d u0 c0 (some ⟨bb, off, none⟩) c2 sv (namesT x.term) ov oc b _ _ HS.out ((HK2.out.keep (agree_of_below (HW.out.trans (hb75s.mono HW.out.size)) _)).low (Nat.min_le_left _ _)) ((ho7.ints.keep (agree_of_below hb75 _)).low (Nat.le_trans (Nat.min_le_right _ _) hz7)) HF.out.right HV.out HTN.out hnl hb10).mono ?_; rintro e w8 ⟨⟨v8, rfl, hq8⟩, hb8'⟩; have hb8 := hb75s.trans (hb8'.mono hb75s.size))
   refine hK.out _ _ ?_ (fun hHeld2 => ?_)
   ·exact hb8
   clear hK K hHeld
   have hHeld := hHeld2
   clear hHeld2
   try simp only [Act.put, sA, sB, sC]
   refine tkh 8 (v := ?_) rfl rfl (by kernel_rfl) (fun _ _ _ h => h) (yesH (by rfl) ?_) hHeld ?_
   rotate_left
   ·intro w9 hS9
    go_simp
    try with_reducible rfl
   simp only [sA, sB, sC]
   refine wpAnyH_done (by kernel_rfl) ?_ _
   go_wp2_with fail
   go_ret
   refine ⟨⟨_, rfl, ?_⟩, HW.out.trans (hb8.mono HW.out.size)⟩
   rw [SI.out]
   exact ⟨fun h => ⟨ALL.out, hq8.1 h⟩, fun h => hq8.2 h.2⟩
end Go.Proofs.YtgojlnclpebdcaaGreatDoor
