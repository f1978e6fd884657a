/- Forms: a block; the program's side. -/
import Derived.Test.YtclagbdomfgodaaGreatDoorFmAQ
import Derived.Deep.RegionHeld2
import Derived.Test.YtclagbdomfgodaaGreatDoorSzM
import Derived.Test.YtclagbdomfgodaaGreatDoorFmEQ
namespace Go.Proofs.YtclagbdomfgodaaGreatDoor
open Go.RowKit
set_option linter.unusedVariables false

def phiB (ids : Int) (p : PhiD) : Bool := widthB p.w && decide (p.ins.length ≤ 10) && p.ins.all fun n => belowB n ids
def blockB (ids blocks funcs : Int) (b : BlockD) : Bool := b.phis.all (phiB ids) && b.insts.all (fun i => instB i ids funcs) && termB b.term ids blocks
def funcB (funcs : Int) (d : FuncD) : Bool := decide (d.params.length ≤ 4) && d.params.all widthB && widthB d.ret && decide (1 ≤ d.blocks.length) && decide (d.blocks.length ≤ 10) && decide (cntF d ≤ 60) && d.blocks.all (blockB (cntF d) d.blocks.length funcs)
def modB (l : List FuncD) : Bool := decide (1 ≤ l.length) && decide (l.length ≤ 3) && l.all (funcB l.length)
theorem phiB_w {ids : Int} {p : PhiD} (h : widthB p.w = false) : ¬ phiB ids p = true := by simp [phiB, h]
theorem phiB_l {ids : Int} {p : PhiD} (h : ¬ p.ins.length ≤ 10) : ¬ phiB ids p = true := by simp [phiB, h]
theorem phiB_a {ids : Int} {p : PhiD} (h : (p.ins.all fun n => belowB n ids) = false) : ¬ phiB ids p = true := by simp [phiB, h]
theorem phiB_t {ids : Int} {p : PhiD} (h : widthB p.w = true) (h1 : p.ins.length ≤ 10) (h2 : (p.ins.all fun n => belowB n ids) = true) : phiB ids p = true := by simp [phiB, h, h1, h2]
/-- The two boxes that blockShapeOk begins with, as they stay. -/
structure RoomB (x : BlockD) (v0 : Option Addr) (q0 : Nat) (v1 : Option Addr) (q1 : Nat) (ids blocks funcs : Int) (w w1 : World) : Prop where
  cells : w1.cell? ⟨w.heap.size, 0, none⟩ = some (.slice v0 x.phis.length q0) ∧ w1.cell? ⟨w.heap.size, 1, none⟩ = some (.slice v1 x.insts.length q1) ∧ w1.cell? ⟨w.heap.size, 2, none⟩ = some (.int .i64 x.term.kind) ∧ w1.cell? ⟨w.heap.size, 3, none⟩ = some (.int .i64 x.term.a) ∧ w1.cell? ⟨w.heap.size, 4, none⟩ = some (.int .i64 x.term.x) ∧ w1.cell? ⟨w.heap.size, 5, none⟩ = some (.int .i64 x.term.y) ∧ w1.cell? ⟨w.heap.size + 1, 0, none⟩ = some (.int .i64 ids) ∧ w1.cell? ⟨w.heap.size + 1, 1, none⟩ = some (.int .i64 blocks) ∧ w1.cell? ⟨w.heap.size + 1, 2, none⟩ = some (.int .i64 funcs)
  below : Below w.heap.size w w1
  size : w.heap.size + 2 ≤ w1.heap.size
theorem RoomB.keep {x : BlockD} {v0 v1 : Option Addr} {q0 q1 : Nat} {ids blocks funcs : Int} {w w1 w2 : World} (h : RoomB x v0 q0 v1 q1 ids blocks funcs w w1) (k : Below w1.heap.size w1 w2) : RoomB x v0 q0 v1 q1 ids blocks funcs w w2 := by
  have hz := h.size
  have e0 : ∀ o, w2.cell? ⟨w.heap.size, o, none⟩ = w1.cell? ⟨w.heap.size, o, none⟩ := fun o => cell_block (k.block _ (by omega))
  have e1 : ∀ o, w2.cell? ⟨w.heap.size + 1, o, none⟩ = w1.cell? ⟨w.heap.size + 1, o, none⟩ := fun o => cell_block (k.block _ (by omega))
  refine ⟨?_, h.below.trans (k.mono (by omega)), Nat.le_trans hz k.size⟩
  simp only [e0, e1]
  exact h.cells
theorem RoomB.start {x : BlockD} {v0 v1 : Option Addr} {q0 q1 : Nat} {ids blocks funcs : Int} {w : World} : RoomB x v0 q0 v1 q1 ids blocks funcs w ((w.alloc (.cells #[.slice v0 x.phis.length q0, .slice v1 x.insts.length q1, .int .i64 x.term.kind, .int .i64 x.term.a, .int .i64 x.term.x, .int .i64 x.term.y] 43)).alloc (.cells #[.int .i64 ids, .int .i64 blocks, .int .i64 funcs] 61)) := by
  refine ⟨?_, ((Below.refl _ _).alloc (Nat.le_refl _) _).alloc (by simp) _, by simp⟩
  have hb := (Below.heap_alloc _ (.cells #[.int .i64 ids, .int .i64 blocks, .int .i64 funcs] 61) _ (by simp)).trans (heap_alloc_last w (.cells #[.slice v0 x.phis.length q0, .slice v1 x.insts.length q1, .int .i64 x.term.kind, .int .i64 x.term.a, .int .i64 x.term.x, .int .i64 x.term.y] 43))
  have hl := heap_alloc_last (w.alloc (.cells #[.slice v0 x.phis.length q0, .slice v1 x.insts.length q1, .int .i64 x.term.kind, .int .i64 x.term.a, .int .i64 x.term.x, .int .i64 x.term.y] 43)) (.cells #[.int .i64 ids, .int .i64 blocks, .int .i64 funcs] 61)
  have e : (w.alloc (.cells #[.slice v0 x.phis.length q0, .slice v1 x.insts.length q1, .int .i64 x.term.kind, .int .i64 x.term.a, .int .i64 x.term.x, .int .i64 x.term.y] 43)).heap.size = w.heap.size + 1 := by simp
  rw [e] at hl
  exact ⟨(cell_of_heap hb).trans rfl, (cell_of_heap hb).trans rfl, (cell_of_heap hb).trans rfl, (cell_of_heap hb).trans rfl, (cell_of_heap hb).trans rfl, (cell_of_heap hb).trans rfl, (cell_of_heap hl).trans rfl, (cell_of_heap hl).trans rfl, (cell_of_heap hl).trans rfl⟩
theorem RoomB.alloc {x : BlockD} {v0 v1 : Option Addr} {q0 q1 : Nat} {ids blocks funcs : Int} {w w1 : World} (h : RoomB x v0 q0 v1 q1 ids blocks funcs w w1) (o : Obj) : RoomB x v0 q0 v1 q1 ids blocks funcs w (w1.alloc o) := h.keep ((Below.refl _ _).alloc (Nat.le_refl _) o)
set_option maxHeartbeats 4000000 in
set_option maxRecDepth 100000 in
theorem blockShI (lo : Nat) (x : BlockD) (v0 : Option Addr) (q0 : Nat) (v1 : Option Addr) (q1 : Nat) (ids blocks funcs : Int) (w : World) (hs : SmBlock x) (m0 : PhisAt w lo v0 x.phis) (m1 : InstsAt w lo v1 x.insts) :
    Calls Tryz.prog 48 #[.agg #[.slice v0 x.phis.length q0, .slice v1 x.insts.length q1, .int .i64 x.term.kind, .int .i64 x.term.a, .int .i64 x.term.x, .int .i64 x.term.y], .agg #[.int .i64 ids, .int .i64 blocks, .int .i64 funcs]] w fun e w' => e = .returned (.bool (blockB ids blocks funcs x)) ∧ Below w.heap.size w w' := by
  have s0 := hs.1.1
  have s1 := hs.2.1
  have SP : Hid (∀ p ∈ x.phis, SmPhi p) := hs.1.2
  have SN : Hid (∀ p ∈ x.insts, SmInst p) := hs.2.2
  have HP : Hid ((x.phis.all (phiB ids)) = false → false = blockB ids blocks funcs x) := fun h => by simp [blockB, h]
  have HI : Hid ((x.insts.all (fun i => instB i ids funcs)) = false → false = blockB ids blocks funcs x) := fun h => by simp [blockB, h]
  have HT : Hid ((x.phis.all (phiB ids)) = true → (x.insts.all (fun i => instB i ids funcs)) = true → termB x.term ids blocks = blockB ids blocks funcs x) := fun h h' => by simp [blockB, h, h']
  clear hs
  go_enter Tryz.func48, Tryz.ntmps48
  go_wp2_with fail
  go_loopw [12] (fun i wr => ∃ j : Nat, j ≤ x.phis.length ∧ i = .int .i64 j ∧ Hid (∀ k, k < j → phiB ids (x.phis.getD k phi0) = true) ∧ RoomB x v0 q0 v1 q1 ids blocks funcs w wr) (fun i _ => x.phis.length - (intOf i).toNat)
  case atStart => exact ⟨0, by omega, rfl, fun k hk => by omega, RoomB.start⟩
  case round =>
    obtain ⟨j, hj, rfl, HD, hR⟩ := hrel
    obtain ⟨wp, hwp⟩ : ∃ wp, wp = wr := ⟨_, rfl⟩
    subst hwp
    obtain ⟨y0, y1, y2, y3, y4, y5, r0, r1, r2⟩ := hR.cells
    have hW := hR.below
    by_cases hjl : j < x.phis.length
    · rcases m0.2 with hn | ⟨pb, po, rfl, hplo, hpb, hpc⟩
      · simp [hn] at hjl
      obtain ⟨hi0, ⟨iu, iq, hi1, im⟩⟩ := hpc j hjl
      have hsp := SP.out _ (getD_mem phi0 x.phis j hjl)
      generalize hp : x.phis.getD j phi0 = p at hi0 hi1 im hsp
      have HPj : Hid (x.phis.getD j phi0 = p) := hp
      have f0 : wp.cell? ⟨pb, po + j * 2, none⟩ = some (.int .i64 p.w) := (cell_block (hW.block pb hpb)).trans hi0
      have f1 : wp.cell? ⟨pb, po + j * 2 + 1, none⟩ = some (.slice iu p.ins.length iq) := (cell_block (hW.block pb hpb)).trans hi1
      have IM := (im.keep (agree_of_below hW lo)).keep (agree_alloc wp (.cells #[.int .i64 p.w, .slice iu p.ins.length iq] 70) _)
      have hsp' : p.ins.length ≤ 1048576 := hsp
      have RR : Hid (RoomB x (some ⟨pb, po, none⟩) q0 v1 q1 ids blocks funcs w (wp.alloc (.cells #[.int .i64 p.w, .slice iu p.ins.length iq] 70))) := hR.alloc _
      have NO : Hid (¬ phiB ids p = true → false = blockB ids blocks funcs x) := fun h => HP.out (all_no phi0 x.phis j hjl (by rw [HPj.out]; exact h))
      have YES : Hid (phiB ids p = true → ∀ k, k < j + 1 → phiB ids (x.phis.getD k phi0) = true) := fun h k hk => by
        by_cases e : k = j
        · subst e; rw [HPj.out]; exact h
        · exact HD.out k (by omega)
      obtain ⟨_, _, _, _, _, _, t0, t1, t2⟩ := RR.out.cells
      clear hpc hi0 hi1 im hsp hp m0 m1 hR HD HP HI HT
      cases hw : widthB p.w with
      | false =>
        have HF : Hid (false = blockB ids blocks funcs x) := NO.out (phiB_w hw)
        go_wp2_with (go_at_call 46; refine (widthI _ _).mono ?_; rintro e w' ⟨rfl, rfl⟩)
        go_ret
        exact ⟨ret_bool HF.out, RR.out.below⟩
      | true =>
        by_cases hl : p.ins.length ≤ 10
        · have hl2 : ¬ (10 : Int) < p.ins.length := by omega
          cases ha : (p.ins.all fun n => belowB n ids) with
          | false =>
            have HF : Hid (false = blockB ids blocks funcs x) := NO.out (phiB_a ha)
            go_wp2_with (first | (go_at_call 46; refine (widthI _ _).mono ?_; rintro e w' ⟨rfl, rfl⟩) | (go_at_call 53; refine (allBelowI lo _ _ _ _ _ IM).mono ?_; rw [ha]; rintro e w' ⟨rfl, rfl⟩))
            go_ret
            exact ⟨ret_bool HF.out, RR.out.below⟩
          | true =>
            have HF : Hid (phiB ids p = true) := phiB_t hw hl ha
            go_wp2_with (first | (go_at_call 46; refine (widthI _ _).mono ?_; rintro e w' ⟨rfl, rfl⟩) | (go_at_call 53; refine (allBelowI lo _ _ _ _ _ IM).mono ?_; rw [ha]; rintro e w' ⟨rfl, rfl⟩))
            go_roundw
            case rel => exact ⟨j + 1, by omega, by go_num, YES.out HF.out, RR.out⟩
            case measure => simp [intOf]; omega
        · have HF : Hid (false = blockB ids blocks funcs x) := NO.out (phiB_l hl)
          have hl2 : (10 : Int) < p.ins.length := by omega
          go_wp2_with (go_at_call 46; refine (widthI _ _).mono ?_; rintro e w' ⟨rfl, rfl⟩)
          go_ret
          exact ⟨ret_bool HF.out, RR.out.below⟩
    · have HPA : Hid ((x.phis.all (phiB ids)) = true) := all_yes phi0 x.phis (fun k hk => HD.out k (by omega))
      have RR : Hid (RoomB x v0 q0 v1 q1 ids blocks funcs w wp) := hR
      clear hR HD HP m0
      go_wp2_with fail
      clear y0 y1 y2 y3 y4 y5 r0 r1 r2
      go_loopw [38] (fun i wr => ∃ j : Nat, j ≤ x.insts.length ∧ i = .int .i64 j ∧ Hid (∀ k, k < j → instB (x.insts.getD k inst0) ids funcs = true) ∧ RoomB x v0 q0 v1 q1 ids blocks funcs w wr) (fun i _ => x.insts.length - (intOf i).toNat)
      case atStart => exact ⟨0, by omega, rfl, fun k hk => by omega, RR.out⟩
      case round =>
        obtain ⟨j, hj, rfl, HD, hR⟩ := hrel
        obtain ⟨wq, hwq⟩ : ∃ wq, wq = wr := ⟨_, rfl⟩
        subst hwq
        clear RR
        obtain ⟨y0, y1, y2, y3, y4, y5, r0, r1, r2⟩ := hR.cells
        have hW := hR.below
        by_cases hjl : j < x.insts.length
        · rcases m1.2 with hn | ⟨pb, po, rfl, hplo, hpb, hpc⟩
          · simp [hn] at hjl
          obtain ⟨i0, i1, i2, i3, i4, i5, ⟨iu, iq, i6, im⟩⟩ := hpc j hjl
          have hsp := SN.out _ (getD_mem inst0 x.insts j hjl)
          generalize hp : x.insts.getD j inst0 = p at i0 i1 i2 i3 i4 i5 i6 im hsp
          have HPj : Hid (x.insts.getD j inst0 = p) := hp
          have f0 : wq.cell? ⟨pb, po + j * 7, none⟩ = some (.int .i64 p.op) := (cell_block (hW.block pb hpb)).trans i0
          have f1 : wq.cell? ⟨pb, po + j * 7 + 1, none⟩ = some (.int .i64 p.w) := (cell_block (hW.block pb hpb)).trans i1
          have f2 : wq.cell? ⟨pb, po + j * 7 + 2, none⟩ = some (.int .i64 p.a) := (cell_block (hW.block pb hpb)).trans i2
          have f3 : wq.cell? ⟨pb, po + j * 7 + 3, none⟩ = some (.int .i64 p.b) := (cell_block (hW.block pb hpb)).trans i3
          have f4 : wq.cell? ⟨pb, po + j * 7 + 4, none⟩ = some (.int .i64 p.c) := (cell_block (hW.block pb hpb)).trans i4
          have f5 : wq.cell? ⟨pb, po + j * 7 + 5, none⟩ = some (.int .i64 p.imm) := (cell_block (hW.block pb hpb)).trans i5
          have f6 : wq.cell? ⟨pb, po + j * 7 + 6, none⟩ = some (.slice iu p.args.length iq) := (cell_block (hW.block pb hpb)).trans i6
          have IM := (im.keep (agree_of_below hW lo)).keep (agree_alloc wq (.cells #[.int .i64 p.op, .int .i64 p.w, .int .i64 p.a, .int .i64 p.b, .int .i64 p.c, .int .i64 p.imm, .slice iu p.args.length iq] 33) _)
          have hsp' : p.args.length ≤ 1048576 := hsp
          have RR : Hid (RoomB x v0 q0 (some ⟨pb, po, none⟩) q1 ids blocks funcs w (wq.alloc (.cells #[.int .i64 p.op, .int .i64 p.w, .int .i64 p.a, .int .i64 p.b, .int .i64 p.c, .int .i64 p.imm, .slice iu p.args.length iq] 33))) := hR.alloc _
          have NO : Hid (instB p ids funcs = false → false = blockB ids blocks funcs x) := fun h => HI.out (all_no inst0 x.insts j hjl (by rw [HPj.out, h]; decide))
          have YES : Hid (instB p ids funcs = true → ∀ k, k < j + 1 → instB (x.insts.getD k inst0) ids funcs = true) := fun h k hk => by
            by_cases e : k = j
            · subst e; rw [HPj.out]; exact h
            · exact HD.out k (by omega)
          have B : ∀ B, instB p ids funcs = B → Calls Tryz.prog 24 #[.agg #[.int .i64 p.op, .int .i64 p.w, .int .i64 p.a, .int .i64 p.b, .int .i64 p.c, .int .i64 p.imm, .slice iu p.args.length iq], .agg #[.int .i64 ids, .int .i64 blocks, .int .i64 funcs]] (wq.alloc (.cells #[.int .i64 p.op, .int .i64 p.w, .int .i64 p.a, .int .i64 p.b, .int .i64 p.c, .int .i64 p.imm, .slice iu p.args.length iq] 33)) fun e w' => e = .returned (.bool B) ∧ Below (wq.alloc (.cells #[.int .i64 p.op, .int .i64 p.w, .int .i64 p.a, .int .i64 p.b, .int .i64 p.c, .int .i64 p.imm, .slice iu p.args.length iq] 33)).heap.size (wq.alloc (.cells #[.int .i64 p.op, .int .i64 p.w, .int .i64 p.a, .int .i64 p.b, .int .i64 p.c, .int .i64 p.imm, .slice iu p.args.length iq] 33)) w' := fun B h => by
            rw [← h]; exact instShI lo p iu iq ids blocks funcs _ hsp' IM
          have RA := hR.alloc (.cells #[.int .i64 p.op, .int .i64 p.w, .int .i64 p.a, .int .i64 p.b, .int .i64 p.c, .int .i64 p.imm, .slice iu p.args.length iq] 33)
          obtain ⟨_, _, _, _, _, _, t0, t1, t2⟩ := RA.cells
          clear hpc i0 i1 i2 i3 i4 i5 i6 im hsp hp m1 hR HD HI HT IM RA
          cases hb : instB p ids funcs with
          | false =>
            have HF : Hid (false = blockB ids blocks funcs x) := NO.out hb
            have BB := B _ hb
            clear B
            go_wp2_with (go_at_call 24; refine BB.mono ?_; rintro e w2 ⟨rfl, hb2⟩)
            go_ret
            exact ⟨ret_bool HF.out, (RR.out.keep hb2).below⟩
          | true =>
            have HF : Hid (instB p ids funcs = true) := hb
            have BB := B _ hb
            clear B
            go_wp2_with (go_at_call 24; refine BB.mono ?_; rintro e w2 ⟨rfl, hb2⟩)
            go_roundw
            case rel => exact ⟨j + 1, by omega, by go_num, YES.out HF.out, RR.out.keep hb2⟩
            case measure => simp [intOf]; omega
        · have HF : Hid (termB x.term ids blocks = blockB ids blocks funcs x) := HT.out HPA.out (all_yes inst0 x.insts (fun k hk => HD.out k (by omega)))
          have RR : Hid (RoomB x v0 q0 v1 q1 ids blocks funcs w wq) := hR
          clear hR HD HI HT m1
          go_wp2_with (go_at_call 79; refine (termShI x.term _ _ _ _).mono ?_; rintro e w2 ⟨rfl, hb2⟩)
          go_ret
          exact ⟨ret_bool HF.out, (RR.out.keep hb2).below⟩
end Go.Proofs.YtclagbdomfgodaaGreatDoor
namespace Go.Proofs.YtclagbdomfgodaaGreatDoor
open Go.RowKit
set_option linter.unusedVariables false

/-- The box that a function of functions begins with, as it stays. -/
structure FBox (d : FuncD) (u0 : Option Addr) (c0 : Nat) (u2 : Option Addr) (c2 : Nat) (w w1 : World) : Prop where
  a0 : w1.cell? ⟨w.heap.size, 0, none⟩ = some (.slice u0 d.params.length c0)
  a1 : w1.cell? ⟨w.heap.size, 1, none⟩ = some (.int .i64 d.ret)
  a2 : w1.cell? ⟨w.heap.size, 2, none⟩ = some (.slice u2 d.blocks.length c2)
  below : Below w.heap.size w w1
  size : w.heap.size + 1 ≤ w1.heap.size
theorem FBox.keep {d : FuncD} {u0 u2 : Option Addr} {c0 c2 : Nat} {w w1 w2 : World} (h : FBox d u0 c0 u2 c2 w w1) (k : Below w1.heap.size w1 w2) : FBox d u0 c0 u2 c2 w w2 := by
  have hz := h.size
  exact ⟨(cell_block (k.block _ (by omega))).trans h.a0, (cell_block (k.block _ (by omega))).trans h.a1, (cell_block (k.block _ (by omega))).trans h.a2, h.below.trans (k.mono (by omega)), Nat.le_trans hz k.size⟩
theorem FBox.start {d : FuncD} {u0 u2 : Option Addr} {c0 c2 : Nat} {w : World} {T : TypeId} : FBox d u0 c0 u2 c2 w (w.alloc (.cells #[.slice u0 d.params.length c0, .int .i64 d.ret, .slice u2 d.blocks.length c2] T)) := by
  have hb := heap_alloc_last w (.cells #[.slice u0 d.params.length c0, .int .i64 d.ret, .slice u2 d.blocks.length c2] T)
  exact ⟨(cell_of_heap hb).trans rfl, (cell_of_heap hb).trans rfl, (cell_of_heap hb).trans rfl, (Below.refl _ _).alloc (Nat.le_refl _) _, by simp⟩
theorem FBox.alloc {d : FuncD} {u0 u2 : Option Addr} {c0 c2 : Nat} {w w1 : World} (h : FBox d u0 c0 u2 c2 w w1) (o : Obj) : FBox d u0 c0 u2 c2 w (w1.alloc o) := h.keep ((Below.refl _ _).alloc (Nat.le_refl _) o)
theorem cell_far {w : World} {g o h p : Nat} {v : Value} {x : Option Value} (hn : h < g) (hx : w.cell? ⟨h, p, none⟩ = x) : (w.setCell ⟨g, o, none⟩ v).cell? ⟨h, p, none⟩ = x := (cell_block (Below.heap_setCell _ _ _ _ (by show h ≠ g; omega))).trans hx
theorem cell_new {w : World} {h p : Nat} {o : Obj} {x : Value} (hn : h < w.heap.size) (hx : w.cell? ⟨h, p, none⟩ = some x) : (w.alloc o).cell? ⟨h, p, none⟩ = some x := (cell_block (Below.heap_alloc w o h hn)).trans hx
theorem new_room {w w2 : World} {a b c : Int} {T : TypeId} (h : Below (w.drew.alloc (.cells #[.int .i64 a, .int .i64 b, .int .i64 c] T)).heap.size (w.drew.alloc (.cells #[.int .i64 a, .int .i64 b, .int .i64 c] T)) w2) :
    w2.heap[w.heap.size]? = some (.cells #[.int .i64 a, .int .i64 b, .int .i64 c] T (0, 0)) := by
  have h2 : (w.drew.alloc (.cells #[.int .i64 a, .int .i64 b, .int .i64 c] T)).heap.size = w.drew.heap.size + 1 := by simp
  have h3 : w.drew.heap.size = w.heap.size := rfl
  exact (h.block w.heap.size (by omega)).trans (heap_alloc_last w.drew _)
/-- A room that was made. -/
structure RBox (R : Nat) (a b c : Int) (w1 : World) : Prop where
  r0 : w1.cell? ⟨R, 0, none⟩ = some (.int .i64 a)
  r1 : w1.cell? ⟨R, 1, none⟩ = some (.int .i64 b)
  r2 : w1.cell? ⟨R, 2, none⟩ = some (.int .i64 c)
  lt : R < w1.heap.size
theorem RBox.keep {R : Nat} {a b c : Int} {w1 w2 : World} (h : RBox R a b c w1) (k : Below w1.heap.size w1 w2) : RBox R a b c w2 :=
  ⟨(cell_block (k.block _ h.lt)).trans h.r0, (cell_block (k.block _ h.lt)).trans h.r1, (cell_block (k.block _ h.lt)).trans h.r2, Nat.lt_of_lt_of_le h.lt k.size⟩
theorem RBox.of {R : Nat} {a b c : Int} {w1 : World} {T : TypeId} (h : w1.heap[R]? = some (.cells #[.int .i64 a, .int .i64 b, .int .i64 c] T (0, 0))) : RBox R a b c w1 :=
  ⟨(cell_of_heap h).trans rfl, (cell_of_heap h).trans rfl, (cell_of_heap h).trans rfl, (Array.getElem?_eq_some_iff.1 h).1⟩
set_option maxHeartbeats 4000000 in
set_option maxRecDepth 100000 in
theorem funcShI_ok (lo : Nat) (d : FuncD) (u0 : Option Addr) (c0 : Nat) (u2 : Option Addr) (c2 : Nat) (funcs : Int) (w : World) (hs : SmFunc d) (k0 : IntsAt w lo u0 d.params) (k2 : BlocksAt w lo u2 d.blocks) (hp : d.params.length ≤ 4) (ha : d.params.all widthB = true) (hr : widthB d.ret = true) (hb1 : 1 ≤ d.blocks.length) (hb2 : d.blocks.length ≤ 10) (hc : cntF d ≤ 60) :
    Calls Tryz.prog 23 #[.agg #[.slice u0 d.params.length c0, .int .i64 d.ret, .slice u2 d.blocks.length c2], .int .i64 funcs] w fun e w' => e = .returned (.bool (funcB funcs d)) ∧ Below w.heap.size w w' := by
  have HS : Hid (∀ p ∈ d.blocks, SmBlock p) := hs.2.2
  have HE : Hid (funcB funcs d = d.blocks.all (blockB (cntF d) d.blocks.length funcs)) := by show _ = _; simp [funcB, hp, ha, hr, hb1, hb2, hc]
  have K1 := (k0.keep (agree_alloc w (.cells #[.slice u0 d.params.length c0, .int .i64 d.ret, .slice u2 d.blocks.length c2] 27) _))
  have F0 := FBox.start (d := d) (u0 := u0) (u2 := u2) (c0 := c0) (c2 := c2) (w := w) (T := 27)
  have i1 : ¬ (4 : Int) < d.params.length := by omega
  have i2 : ¬ (d.blocks.length : Int) < 1 := by omega
  have i3 : ¬ (10 : Int) < d.blocks.length := by omega
  have i4 : ¬ (60 : Int) < cntF d := by omega
  have A := fun w k => allWidthsI lo u0 c0 d.params w k
  simp only [show (fun n => widthB n) = widthB from rfl] at A
  rw [ha] at A
  go_enter Tryz.func23, Tryz.ntmps23
  go_wp2_with (first | (go_at_call 45; refine (A _ K1).mono ?_; rintro e w' ⟨rfl, rfl⟩) | (go_at_call 46; refine (widthI _ _).mono ?_; rintro e w' ⟨rfl, rfl⟩))
  refine (countI_any lo d u0 c0 u2 c2 _ hs (k2.keep (agree_of_below F0.below lo))).mono ?_
  rintro e w1 ⟨rfl, hb1'⟩
  have F1 := F0.keep hb1'
  have b0 := F1.a0
  have b1 := F1.a1
  have b2 := F1.a2
  clear hb1' F0 A K1
  go_wp2_with fail
  have z0 : w.heap.size < w1.heap.size := by have := F1.size; omega
  have F1d := F1.keep (Below.refl w1.heap.size w1).drew
  have b0d := F1d.a0
  have b1d := F1d.a1
  have b2d := F1d.a2
  have F1n := F1d.alloc (.cells #[.int .i64 0, .int .i64 0, .int .i64 0] 61)
  have b0n := F1n.a0
  have b1n := F1n.a1
  have b2n := F1n.a2
  have KB := k2.keep (agree_of_below F1d.below lo)
  have KN := k2.keep (agree_of_below F1n.below lo)
  go_region_held2 (fun w' => w'.cell? ⟨w.heap.size, 0, none⟩ = some (.slice u0 d.params.length c0) ∧ w'.cell? ⟨w.heap.size, 1, none⟩ = some (.int .i64 d.ret) ∧ w'.cell? ⟨w.heap.size, 2, none⟩ = some (.slice u2 d.blocks.length c2)) (first | with_reducible exact ⟨b0d, b1d, b2d⟩ | with_reducible exact ⟨b0n, b1n, b2n⟩ | with_reducible exact ⟨e0, e1, e2⟩ | with_reducible exact ⟨cell_new z2 e0, cell_new z2 e1, cell_new z2 e2⟩ | with_reducible exact ⟨cell_far z0 (cell_far z0 (cell_far z0 e0)), cell_far z0 (cell_far z0 (cell_far z0 e1)), cell_far z0 (cell_far z0 (cell_far z0 e2))⟩ | go_keep) (first | (go_at_call 47; refine (countI_any lo d u0 c0 u2 c2 _ hs KN).mono ?_; rintro e w2 ⟨rfl, hb2'⟩; have F2 := F1n.keep hb2'; have e0 := F2.a0; have e1 := F2.a1; have e2 := F2.a2; have hr2 := new_room hb2'; have r0 := cell_of_heap (o := 0) hr2; have r1 := cell_of_heap (o := 1) hr2; have r2 := cell_of_heap (o := 2) hr2; have q0 := froz_of_heap (o := 0) hr2; have q1 := froz_of_heap (o := 1) hr2; have q2 := froz_of_heap (o := 2) hr2) | (go_at_call 47; refine (countI_any lo d u0 c0 u2 c2 _ hs KB).mono ?_; rintro e w2 ⟨rfl, hb2'⟩; have F2 := F1d.keep hb2'; have e0 := F2.a0; have e1 := F2.a1; have e2 := F2.a2; have z2 : w.heap.size < w2.heap.size := by have := F2.size; omega))
  · have RB : RBox w2.heap.size (cntF d) d.blocks.length funcs (w2.alloc (.cells #[.int .i64 (cntF d), .int .i64 d.blocks.length, .int .i64 funcs] 61)) := RBox.of (heap_alloc_last _ _)
    have FB := F2.alloc (.cells #[.int .i64 (cntF d), .int .i64 d.blocks.length, .int .i64 funcs] 61)
    clear e0 e1 e2 z2 hb2' F2
    clear b0 b1 b2 b0d b1d b2d b0n b1n b2n KB KN F1 F1d F1n z0
    have z0 := FB.a0
    have z1 := FB.a1
    have z2 := FB.a2
    go_wp2_with fail
    clear z0 z1 z2
    go_loopw [49] (fun i wr => ∃ j : Nat, j ≤ d.blocks.length ∧ i = .int .i64 j ∧ Hid (∀ k, k < j → blockB (cntF d) d.blocks.length funcs (d.blocks.getD k block0) = true) ∧ RBox w2.heap.size (cntF d) d.blocks.length funcs wr ∧ Below w.heap.size w wr) (fun i _ => d.blocks.length - (intOf i).toNat)
    case atStart => exact ⟨0, by omega, rfl, fun k hk => by omega, RB, FB.below⟩
    case round =>
      obtain ⟨j, hj, rfl, HD, hR, hW⟩ := hrel
      obtain ⟨wp, hwp⟩ : ∃ wp, wp = wr := ⟨_, rfl⟩
      subst hwp
      clear RB FB
      by_cases hjl : j < d.blocks.length
      · rcases k2.2 with hn | ⟨bb, off, rfl, hlo, hbb, hcell⟩
        · simp [hn] at hjl
        obtain ⟨⟨p0, q0, h0, m0⟩, ⟨p1, q1, h1, m1⟩, h2, h3, h4, h5⟩ := hcell j hjl
        have hsm := HS.out _ (getD_mem block0 d.blocks j hjl)
        generalize hx : d.blocks.getD j block0 = x at h0 h1 h2 h3 h4 h5 m0 m1 hsm
        have HX : Hid (d.blocks.getD j block0 = x) := hx
        have f0 : wp.cell? ⟨bb, off + j * 6, none⟩ = some (.slice p0 x.phis.length q0) := (cell_block (hW.block bb hbb)).trans h0
        have f1 : wp.cell? ⟨bb, off + j * 6 + 1, none⟩ = some (.slice p1 x.insts.length q1) := (cell_block (hW.block bb hbb)).trans h1
        have f2 : wp.cell? ⟨bb, off + j * 6 + 2, none⟩ = some (.int .i64 x.term.kind) := (cell_block (hW.block bb hbb)).trans h2
        have f3 : wp.cell? ⟨bb, off + j * 6 + 3, none⟩ = some (.int .i64 x.term.a) := (cell_block (hW.block bb hbb)).trans h3
        have f4 : wp.cell? ⟨bb, off + j * 6 + 4, none⟩ = some (.int .i64 x.term.x) := (cell_block (hW.block bb hbb)).trans h4
        have f5 : wp.cell? ⟨bb, off + j * 6 + 5, none⟩ = some (.int .i64 x.term.y) := (cell_block (hW.block bb hbb)).trans h5
        have M0 := (m0.keep (agree_of_below hW lo)).keep (agree_alloc wp (.cells #[.slice p0 x.phis.length q0, .slice p1 x.insts.length q1, .int .i64 x.term.kind, .int .i64 x.term.a, .int .i64 x.term.x, .int .i64 x.term.y] 43) _)
        have M1 := (m1.keep (agree_of_below hW lo)).keep (agree_alloc wp (.cells #[.slice p0 x.phis.length q0, .slice p1 x.insts.length q1, .int .i64 x.term.kind, .int .i64 x.term.a, .int .i64 x.term.x, .int .i64 x.term.y] 43) _)
        have RA := hR.keep ((Below.refl _ _).alloc (Nat.le_refl _) (.cells #[.slice p0 x.phis.length q0, .slice p1 x.insts.length q1, .int .i64 x.term.kind, .int .i64 x.term.a, .int .i64 x.term.x, .int .i64 x.term.y] 43))
        have WA : Below w.heap.size w (wp.alloc (.cells #[.slice p0 x.phis.length q0, .slice p1 x.insts.length q1, .int .i64 x.term.kind, .int .i64 x.term.a, .int .i64 x.term.x, .int .i64 x.term.y] 43)) := hW.alloc hW.size _
        have B : ∀ B, blockB (cntF d) d.blocks.length funcs x = B → Calls Tryz.prog 48 #[.agg #[.slice p0 x.phis.length q0, .slice p1 x.insts.length q1, .int .i64 x.term.kind, .int .i64 x.term.a, .int .i64 x.term.x, .int .i64 x.term.y], .agg #[.int .i64 (cntF d), .int .i64 d.blocks.length, .int .i64 funcs]] (wp.alloc (.cells #[.slice p0 x.phis.length q0, .slice p1 x.insts.length q1, .int .i64 x.term.kind, .int .i64 x.term.a, .int .i64 x.term.x, .int .i64 x.term.y] 43)) fun e w' => e = .returned (.bool B) ∧ Below (wp.alloc (.cells #[.slice p0 x.phis.length q0, .slice p1 x.insts.length q1, .int .i64 x.term.kind, .int .i64 x.term.a, .int .i64 x.term.x, .int .i64 x.term.y] 43)).heap.size (wp.alloc (.cells #[.slice p0 x.phis.length q0, .slice p1 x.insts.length q1, .int .i64 x.term.kind, .int .i64 x.term.a, .int .i64 x.term.x, .int .i64 x.term.y] 43)) w' := fun B h => by
          rw [← h]; exact blockShI lo x p0 q0 p1 q1 (cntF d) d.blocks.length funcs _ hsm M0 M1
        have NO : Hid (blockB (cntF d) d.blocks.length funcs x = false → false = funcB funcs d) := fun h => by
          rw [HE.out]; exact (all_no block0 d.blocks j hjl (by rw [HX.out, h]; decide)).symm
        have YES : Hid (blockB (cntF d) d.blocks.length funcs x = true → ∀ k, k < j + 1 → blockB (cntF d) d.blocks.length funcs (d.blocks.getD k block0) = true) := fun h k hk => by
          by_cases e : k = j
          · subst e; rw [HX.out]; exact h
          · exact HD.out k (by omega)
        have t0 := RA.r0
        have t1 := RA.r1
        have t2 := RA.r2
        have HRA : Hid (RBox w2.heap.size (cntF d) d.blocks.length funcs (wp.alloc (.cells #[.slice p0 x.phis.length q0, .slice p1 x.insts.length q1, .int .i64 x.term.kind, .int .i64 x.term.a, .int .i64 x.term.x, .int .i64 x.term.y] 43))) := RA
        have HWA : Hid (Below w.heap.size w (wp.alloc (.cells #[.slice p0 x.phis.length q0, .slice p1 x.insts.length q1, .int .i64 x.term.kind, .int .i64 x.term.a, .int .i64 x.term.x, .int .i64 x.term.y] 43))) := WA
        clear hcell h0 h1 h2 h3 h4 h5 m0 m1 hsm hx hR hW M0 M1 RA WA HD
        cases hb : blockB (cntF d) d.blocks.length funcs x with
        | false =>
          have HF : Hid (false = funcB funcs d) := NO.out hb
          have BB := B _ hb
          clear B
          go_wp2_with (go_at_call 48; refine BB.mono ?_; rintro e w3 ⟨rfl, hb3⟩)
          go_ret
          exact ⟨ret_bool HF.out, HWA.out.trans (hb3.mono HWA.out.size)⟩
        | true =>
          have HF : Hid (blockB (cntF d) d.blocks.length funcs x = true) := hb
          have BB := B _ hb
          clear B
          go_wp2_with (go_at_call 48; refine BB.mono ?_; rintro e w3 ⟨rfl, hb3⟩)
          go_roundw
          case rel => exact ⟨j + 1, by omega, by go_num, YES.out HF.out, HRA.out.keep hb3, HWA.out.trans (hb3.mono HWA.out.size)⟩
          case measure => simp [intOf]; omega
      · have HF : Hid (true = funcB funcs d) := by
          show _ = _
          rw [HE.out]; exact (all_yes block0 d.blocks (fun k hk => HD.out k (by omega))).symm
        go_wp2_with fail
        go_ret
        exact ⟨ret_bool HF.out, hW⟩
  · have RB : RBox w1.heap.size (cntF d) d.blocks.length funcs (((w2.setCell ⟨w1.heap.size, 0, none⟩ (.int .i64 (cntF d))).setCell ⟨w1.heap.size, 1, none⟩ (.int .i64 d.blocks.length)).setCell ⟨w1.heap.size, 2, none⟩ (.int .i64 funcs)) := RBox.of (heap_set (heap_set (heap_set hr2)))
    have FB : FBox d u0 c0 u2 c2 w (((w2.setCell ⟨w1.heap.size, 0, none⟩ (.int .i64 (cntF d))).setCell ⟨w1.heap.size, 1, none⟩ (.int .i64 d.blocks.length)).setCell ⟨w1.heap.size, 2, none⟩ (.int .i64 funcs)) :=
      ⟨cell_far z0 (cell_far z0 (cell_far z0 e0)), cell_far z0 (cell_far z0 (cell_far z0 e1)), cell_far z0 (cell_far z0 (cell_far z0 e2)), ((F2.below.setCell (by dsimp only; omega) _).setCell (by dsimp only; omega) _).setCell (by dsimp only; omega) _, by have := F2.size; simp [World.setCell]; omega⟩
    generalize ((w2.setCell ⟨w1.heap.size, 0, none⟩ (.int .i64 (cntF d))).setCell ⟨w1.heap.size, 1, none⟩ (.int .i64 d.blocks.length)).setCell ⟨w1.heap.size, 2, none⟩ (.int .i64 funcs) = wz at RB FB ⊢
    clear e0 e1 e2 hb2' F2 hr2 r0 r1 r2 q0 q1 q2
    clear b0 b1 b2 b0d b1d b2d b0n b1n b2n KB KN F1 F1d F1n z0
    have z0 := FB.a0
    have z1 := FB.a1
    have z2 := FB.a2
    go_wp2_with fail
    clear z0 z1 z2
    go_loopw [49] (fun i wr => ∃ j : Nat, j ≤ d.blocks.length ∧ i = .int .i64 j ∧ Hid (∀ k, k < j → blockB (cntF d) d.blocks.length funcs (d.blocks.getD k block0) = true) ∧ RBox w1.heap.size (cntF d) d.blocks.length funcs wr ∧ Below w.heap.size w wr) (fun i _ => d.blocks.length - (intOf i).toNat)
    case atStart => exact ⟨0, by omega, rfl, fun k hk => by omega, RB, FB.below⟩
    case round =>
      obtain ⟨j, hj, rfl, HD, hR, hW⟩ := hrel
      obtain ⟨wp, hwp⟩ : ∃ wp, wp = wr := ⟨_, rfl⟩
      subst hwp
      clear RB FB
      by_cases hjl : j < d.blocks.length
      · rcases k2.2 with hn | ⟨bb, off, rfl, hlo, hbb, hcell⟩
        · simp [hn] at hjl
        obtain ⟨⟨p0, q0, h0, m0⟩, ⟨p1, q1, h1, m1⟩, h2, h3, h4, h5⟩ := hcell j hjl
        have hsm := HS.out _ (getD_mem block0 d.blocks j hjl)
        generalize hx : d.blocks.getD j block0 = x at h0 h1 h2 h3 h4 h5 m0 m1 hsm
        have HX : Hid (d.blocks.getD j block0 = x) := hx
        have f0 : wp.cell? ⟨bb, off + j * 6, none⟩ = some (.slice p0 x.phis.length q0) := (cell_block (hW.block bb hbb)).trans h0
        have f1 : wp.cell? ⟨bb, off + j * 6 + 1, none⟩ = some (.slice p1 x.insts.length q1) := (cell_block (hW.block bb hbb)).trans h1
        have f2 : wp.cell? ⟨bb, off + j * 6 + 2, none⟩ = some (.int .i64 x.term.kind) := (cell_block (hW.block bb hbb)).trans h2
        have f3 : wp.cell? ⟨bb, off + j * 6 + 3, none⟩ = some (.int .i64 x.term.a) := (cell_block (hW.block bb hbb)).trans h3
        have f4 : wp.cell? ⟨bb, off + j * 6 + 4, none⟩ = some (.int .i64 x.term.x) := (cell_block (hW.block bb hbb)).trans h4
        have f5 : wp.cell? ⟨bb, off + j * 6 + 5, none⟩ = some (.int .i64 x.term.y) := (cell_block (hW.block bb hbb)).trans h5
        have M0 := (m0.keep (agree_of_below hW lo)).keep (agree_alloc wp (.cells #[.slice p0 x.phis.length q0, .slice p1 x.insts.length q1, .int .i64 x.term.kind, .int .i64 x.term.a, .int .i64 x.term.x, .int .i64 x.term.y] 43) _)
        have M1 := (m1.keep (agree_of_below hW lo)).keep (agree_alloc wp (.cells #[.slice p0 x.phis.length q0, .slice p1 x.insts.length q1, .int .i64 x.term.kind, .int .i64 x.term.a, .int .i64 x.term.x, .int .i64 x.term.y] 43) _)
        have RA := hR.keep ((Below.refl _ _).alloc (Nat.le_refl _) (.cells #[.slice p0 x.phis.length q0, .slice p1 x.insts.length q1, .int .i64 x.term.kind, .int .i64 x.term.a, .int .i64 x.term.x, .int .i64 x.term.y] 43))
        have WA : Below w.heap.size w (wp.alloc (.cells #[.slice p0 x.phis.length q0, .slice p1 x.insts.length q1, .int .i64 x.term.kind, .int .i64 x.term.a, .int .i64 x.term.x, .int .i64 x.term.y] 43)) := hW.alloc hW.size _
        have B : ∀ B, blockB (cntF d) d.blocks.length funcs x = B → Calls Tryz.prog 48 #[.agg #[.slice p0 x.phis.length q0, .slice p1 x.insts.length q1, .int .i64 x.term.kind, .int .i64 x.term.a, .int .i64 x.term.x, .int .i64 x.term.y], .agg #[.int .i64 (cntF d), .int .i64 d.blocks.length, .int .i64 funcs]] (wp.alloc (.cells #[.slice p0 x.phis.length q0, .slice p1 x.insts.length q1, .int .i64 x.term.kind, .int .i64 x.term.a, .int .i64 x.term.x, .int .i64 x.term.y] 43)) fun e w' => e = .returned (.bool B) ∧ Below (wp.alloc (.cells #[.slice p0 x.phis.length q0, .slice p1 x.insts.length q1, .int .i64 x.term.kind, .int .i64 x.term.a, .int .i64 x.term.x, .int .i64 x.term.y] 43)).heap.size (wp.alloc (.cells #[.slice p0 x.phis.length q0, .slice p1 x.insts.length q1, .int .i64 x.term.kind, .int .i64 x.term.a, .int .i64 x.term.x, .int .i64 x.term.y] 43)) w' := fun B h => by
          rw [← h]; exact blockShI lo x p0 q0 p1 q1 (cntF d) d.blocks.length funcs _ hsm M0 M1
        have NO : Hid (blockB (cntF d) d.blocks.length funcs x = false → false = funcB funcs d) := fun h => by
          rw [HE.out]; exact (all_no block0 d.blocks j hjl (by rw [HX.out, h]; decide)).symm
        have YES : Hid (blockB (cntF d) d.blocks.length funcs x = true → ∀ k, k < j + 1 → blockB (cntF d) d.blocks.length funcs (d.blocks.getD k block0) = true) := fun h k hk => by
          by_cases e : k = j
          · subst e; rw [HX.out]; exact h
          · exact HD.out k (by omega)
        have t0 := RA.r0
        have t1 := RA.r1
        have t2 := RA.r2
        have HRA : Hid (RBox w1.heap.size (cntF d) d.blocks.length funcs (wp.alloc (.cells #[.slice p0 x.phis.length q0, .slice p1 x.insts.length q1, .int .i64 x.term.kind, .int .i64 x.term.a, .int .i64 x.term.x, .int .i64 x.term.y] 43))) := RA
        have HWA : Hid (Below w.heap.size w (wp.alloc (.cells #[.slice p0 x.phis.length q0, .slice p1 x.insts.length q1, .int .i64 x.term.kind, .int .i64 x.term.a, .int .i64 x.term.x, .int .i64 x.term.y] 43))) := WA
        clear hcell h0 h1 h2 h3 h4 h5 m0 m1 hsm hx hR hW M0 M1 RA WA HD
        cases hb : blockB (cntF d) d.blocks.length funcs x with
        | false =>
          have HF : Hid (false = funcB funcs d) := NO.out hb
          have BB := B _ hb
          clear B
          go_wp2_with (go_at_call 48; refine BB.mono ?_; rintro e w3 ⟨rfl, hb3⟩)
          go_ret
          exact ⟨ret_bool HF.out, HWA.out.trans (hb3.mono HWA.out.size)⟩
        | true =>
          have HF : Hid (blockB (cntF d) d.blocks.length funcs x = true) := hb
          have BB := B _ hb
          clear B
          go_wp2_with (go_at_call 48; refine BB.mono ?_; rintro e w3 ⟨rfl, hb3⟩)
          go_roundw
          case rel => exact ⟨j + 1, by omega, by go_num, YES.out HF.out, HRA.out.keep hb3, HWA.out.trans (hb3.mono HWA.out.size)⟩
          case measure => simp [intOf]; omega
      · have HF : Hid (true = funcB funcs d) := by
          show _ = _
          rw [HE.out]; exact (all_yes block0 d.blocks (fun k hk => HD.out k (by omega))).symm
        go_wp2_with fail
        go_ret
        exact ⟨ret_bool HF.out, hW⟩
end Go.Proofs.YtclagbdomfgodaaGreatDoor
namespace Go.Proofs.YtclagbdomfgodaaGreatDoor
open Go.RowKit
set_option linter.unusedVariables false

set_option maxHeartbeats 2000000 in
set_option maxRecDepth 100000 in
theorem funcShI_p (lo : Nat) (d : FuncD) (u0 : Option Addr) (c0 : Nat) (u2 : Option Addr) (c2 : Nat) (funcs : Int) (w : World) (hs : SmFunc d) (k0 : IntsAt w lo u0 d.params) (k2 : BlocksAt w lo u2 d.blocks) (hp : ¬ d.params.length ≤ 4) : Calls Tryz.prog 23 #[.agg #[.slice u0 d.params.length c0, .int .i64 d.ret, .slice u2 d.blocks.length c2], .int .i64 funcs] w fun e w' => e = .returned (.bool (funcB funcs d)) ∧ Below w.heap.size w w' := by
  have HR : Hid (false = funcB funcs d) := by show _ = _; simp [funcB, hp]
  have i1 : (4 : Int) < d.params.length := by omega
  go_enter Tryz.func23, Tryz.ntmps23
  go_wp2_with fail
  go_ret
  exact ⟨ret_bool HR.out, (Below.refl _ _).alloc (Nat.le_refl _) _⟩
set_option maxHeartbeats 2000000 in
set_option maxRecDepth 100000 in
theorem funcShI_a (lo : Nat) (d : FuncD) (u0 : Option Addr) (c0 : Nat) (u2 : Option Addr) (c2 : Nat) (funcs : Int) (w : World) (hs : SmFunc d) (k0 : IntsAt w lo u0 d.params) (k2 : BlocksAt w lo u2 d.blocks) (hp : d.params.length ≤ 4) (ha : d.params.all widthB = false) : Calls Tryz.prog 23 #[.agg #[.slice u0 d.params.length c0, .int .i64 d.ret, .slice u2 d.blocks.length c2], .int .i64 funcs] w fun e w' => e = .returned (.bool (funcB funcs d)) ∧ Below w.heap.size w w' := by
  have HR : Hid (false = funcB funcs d) := by show _ = _; simp [funcB, ha]
  have i1 : ¬ (4 : Int) < d.params.length := by omega
  have K1 := (k0.keep (agree_alloc w (.cells #[.slice u0 d.params.length c0, .int .i64 d.ret, .slice u2 d.blocks.length c2] 27) _))
  have A := fun w k => allWidthsI lo u0 c0 d.params w k
  simp only [show (fun n => widthB n) = widthB from rfl] at A
  rw [ha] at A
  go_enter Tryz.func23, Tryz.ntmps23
  go_wp2_with (first | (go_at_call 45; refine (A _ K1).mono ?_; rintro e w' ⟨rfl, rfl⟩))
  go_ret
  exact ⟨ret_bool HR.out, (Below.refl _ _).alloc (Nat.le_refl _) _⟩
set_option maxHeartbeats 2000000 in
set_option maxRecDepth 100000 in
theorem funcShI_r (lo : Nat) (d : FuncD) (u0 : Option Addr) (c0 : Nat) (u2 : Option Addr) (c2 : Nat) (funcs : Int) (w : World) (hs : SmFunc d) (k0 : IntsAt w lo u0 d.params) (k2 : BlocksAt w lo u2 d.blocks) (hp : d.params.length ≤ 4) (ha : d.params.all widthB = true) (hr : widthB d.ret = false) : Calls Tryz.prog 23 #[.agg #[.slice u0 d.params.length c0, .int .i64 d.ret, .slice u2 d.blocks.length c2], .int .i64 funcs] w fun e w' => e = .returned (.bool (funcB funcs d)) ∧ Below w.heap.size w w' := by
  have HR : Hid (false = funcB funcs d) := by show _ = _; simp [funcB, hr]
  have i1 : ¬ (4 : Int) < d.params.length := by omega
  have K1 := (k0.keep (agree_alloc w (.cells #[.slice u0 d.params.length c0, .int .i64 d.ret, .slice u2 d.blocks.length c2] 27) _))
  have A := fun w k => allWidthsI lo u0 c0 d.params w k
  simp only [show (fun n => widthB n) = widthB from rfl] at A
  rw [ha] at A
  go_enter Tryz.func23, Tryz.ntmps23
  go_wp2_with (first | (go_at_call 45; refine (A _ K1).mono ?_; rintro e w' ⟨rfl, rfl⟩) | (go_at_call 46; refine (widthI _ _).mono ?_; rintro e w' ⟨rfl, rfl⟩))
  go_ret
  exact ⟨ret_bool HR.out, (Below.refl _ _).alloc (Nat.le_refl _) _⟩
set_option maxHeartbeats 2000000 in
set_option maxRecDepth 100000 in
theorem funcShI_b (lo : Nat) (d : FuncD) (u0 : Option Addr) (c0 : Nat) (u2 : Option Addr) (c2 : Nat) (funcs : Int) (w : World) (hs : SmFunc d) (k0 : IntsAt w lo u0 d.params) (k2 : BlocksAt w lo u2 d.blocks) (hp : d.params.length ≤ 4) (ha : d.params.all widthB = true) (hr : widthB d.ret = true) (hb : ¬ 1 ≤ d.blocks.length) : Calls Tryz.prog 23 #[.agg #[.slice u0 d.params.length c0, .int .i64 d.ret, .slice u2 d.blocks.length c2], .int .i64 funcs] w fun e w' => e = .returned (.bool (funcB funcs d)) ∧ Below w.heap.size w w' := by
  have HR : Hid (false = funcB funcs d) := by show _ = _; simp [funcB, hb]
  have i1 : ¬ (4 : Int) < d.params.length := by omega
  have K1 := (k0.keep (agree_alloc w (.cells #[.slice u0 d.params.length c0, .int .i64 d.ret, .slice u2 d.blocks.length c2] 27) _))
  have A := fun w k => allWidthsI lo u0 c0 d.params w k
  simp only [show (fun n => widthB n) = widthB from rfl] at A
  rw [ha] at A
  have i2 : (d.blocks.length : Int) < 1 := by omega
  go_enter Tryz.func23, Tryz.ntmps23
  go_wp2_with (first | (go_at_call 45; refine (A _ K1).mono ?_; rintro e w' ⟨rfl, rfl⟩) | (go_at_call 46; refine (widthI _ _).mono ?_; rintro e w' ⟨rfl, rfl⟩))
  go_ret
  exact ⟨ret_bool HR.out, (Below.refl _ _).alloc (Nat.le_refl _) _⟩
set_option maxHeartbeats 2000000 in
set_option maxRecDepth 100000 in
theorem funcShI_c (lo : Nat) (d : FuncD) (u0 : Option Addr) (c0 : Nat) (u2 : Option Addr) (c2 : Nat) (funcs : Int) (w : World) (hs : SmFunc d) (k0 : IntsAt w lo u0 d.params) (k2 : BlocksAt w lo u2 d.blocks) (hp : d.params.length ≤ 4) (ha : d.params.all widthB = true) (hr : widthB d.ret = true) (hb : 1 ≤ d.blocks.length) (hc : ¬ d.blocks.length ≤ 10) : Calls Tryz.prog 23 #[.agg #[.slice u0 d.params.length c0, .int .i64 d.ret, .slice u2 d.blocks.length c2], .int .i64 funcs] w fun e w' => e = .returned (.bool (funcB funcs d)) ∧ Below w.heap.size w w' := by
  have HR : Hid (false = funcB funcs d) := by show _ = _; simp [funcB, hc]
  have i1 : ¬ (4 : Int) < d.params.length := by omega
  have K1 := (k0.keep (agree_alloc w (.cells #[.slice u0 d.params.length c0, .int .i64 d.ret, .slice u2 d.blocks.length c2] 27) _))
  have A := fun w k => allWidthsI lo u0 c0 d.params w k
  simp only [show (fun n => widthB n) = widthB from rfl] at A
  rw [ha] at A
  have i2 : ¬ (d.blocks.length : Int) < 1 := by omega
  have i3 : (10 : Int) < d.blocks.length := by have := hs.2.1; omega
  go_enter Tryz.func23, Tryz.ntmps23
  go_wp2_with (first | (go_at_call 45; refine (A _ K1).mono ?_; rintro e w' ⟨rfl, rfl⟩) | (go_at_call 46; refine (widthI _ _).mono ?_; rintro e w' ⟨rfl, rfl⟩))
  go_ret
  exact ⟨ret_bool HR.out, (Below.refl _ _).alloc (Nat.le_refl _) _⟩
set_option maxHeartbeats 2000000 in
set_option maxRecDepth 100000 in
theorem funcShI_n (lo : Nat) (d : FuncD) (u0 : Option Addr) (c0 : Nat) (u2 : Option Addr) (c2 : Nat) (funcs : Int) (w : World) (hs : SmFunc d) (k0 : IntsAt w lo u0 d.params) (k2 : BlocksAt w lo u2 d.blocks) (hp : d.params.length ≤ 4) (ha : d.params.all widthB = true) (hr : widthB d.ret = true) (hb : 1 ≤ d.blocks.length) (hc : d.blocks.length ≤ 10) (hn : ¬ cntF d ≤ 60) : Calls Tryz.prog 23 #[.agg #[.slice u0 d.params.length c0, .int .i64 d.ret, .slice u2 d.blocks.length c2], .int .i64 funcs] w fun e w' => e = .returned (.bool (funcB funcs d)) ∧ Below w.heap.size w w' := by
  have HR : Hid (false = funcB funcs d) := by show _ = _; simp [funcB, hn]
  have F0 := FBox.start (d := d) (u0 := u0) (u2 := u2) (c0 := c0) (c2 := c2) (w := w) (T := 27)
  have i1 : ¬ (4 : Int) < d.params.length := by omega
  have K1 := (k0.keep (agree_alloc w (.cells #[.slice u0 d.params.length c0, .int .i64 d.ret, .slice u2 d.blocks.length c2] 27) _))
  have A := fun w k => allWidthsI lo u0 c0 d.params w k
  simp only [show (fun n => widthB n) = widthB from rfl] at A
  rw [ha] at A
  have i2 : ¬ (d.blocks.length : Int) < 1 := by omega
  have i3 : ¬ (10 : Int) < d.blocks.length := by omega
  have i4 : (60 : Int) < cntF d := by omega
  go_enter Tryz.func23, Tryz.ntmps23
  go_wp2_with (first | (go_at_call 45; refine (A _ K1).mono ?_; rintro e w' ⟨rfl, rfl⟩) | (go_at_call 46; refine (widthI _ _).mono ?_; rintro e w' ⟨rfl, rfl⟩))
  refine (countI_any lo d u0 c0 u2 c2 _ hs (k2.keep (agree_of_below F0.below lo))).mono ?_
  rintro e w1 ⟨rfl, hb1'⟩
  have F1 := F0.keep hb1'
  go_wp2_with fail
  go_ret
  exact ⟨ret_bool HR.out, F1.below⟩
theorem funcShI (lo : Nat) (d : FuncD) (u0 : Option Addr) (c0 : Nat) (u2 : Option Addr) (c2 : Nat) (funcs : Int) (w : World) (hs : SmFunc d) (k0 : IntsAt w lo u0 d.params) (k2 : BlocksAt w lo u2 d.blocks) : Calls Tryz.prog 23 #[.agg #[.slice u0 d.params.length c0, .int .i64 d.ret, .slice u2 d.blocks.length c2], .int .i64 funcs] w fun e w' => e = .returned (.bool (funcB funcs d)) ∧ Below w.heap.size w w' := by
  by_cases hp : d.params.length ≤ 4
  · cases ha : d.params.all widthB with
    | false => exact funcShI_a lo d u0 c0 u2 c2 funcs w hs k0 k2 hp ha
    | true =>
      cases hr : widthB d.ret with
      | false => exact funcShI_r lo d u0 c0 u2 c2 funcs w hs k0 k2 hp ha hr
      | true =>
        by_cases hb : 1 ≤ d.blocks.length
        · by_cases hc : d.blocks.length ≤ 10
          · by_cases hn : cntF d ≤ 60
            · exact funcShI_ok lo d u0 c0 u2 c2 funcs w hs k0 k2 hp ha hr hb hc hn
            · exact funcShI_n lo d u0 c0 u2 c2 funcs w hs k0 k2 hp ha hr hb hc hn
          · exact funcShI_c lo d u0 c0 u2 c2 funcs w hs k0 k2 hp ha hr hb hc
        · exact funcShI_b lo d u0 c0 u2 c2 funcs w hs k0 k2 hp ha hr hb
  · exact funcShI_p lo d u0 c0 u2 c2 funcs w hs k0 k2 hp
end Go.Proofs.YtclagbdomfgodaaGreatDoor
namespace Go.Proofs.YtclagbdomfgodaaGreatDoor
open Go.RowKit
set_option linter.unusedVariables false

theorem cells6b {w : World} {v0 v1 : Value} {t0 t1 t2 t3 : Int} {T : TypeId} :
    (w.alloc (.cells #[v0, v1, .int .i64 t0, .int .i64 t1, .int .i64 t2, .int .i64 t3] T)).cell? ⟨w.heap.size, 0, none⟩ = some v0 ∧ (w.alloc (.cells #[v0, v1, .int .i64 t0, .int .i64 t1, .int .i64 t2, .int .i64 t3] T)).cell? ⟨w.heap.size, 1, none⟩ = some v1 ∧ (w.alloc (.cells #[v0, v1, .int .i64 t0, .int .i64 t1, .int .i64 t2, .int .i64 t3] T)).cell? ⟨w.heap.size, 2, none⟩ = some (.int .i64 t0) ∧ (w.alloc (.cells #[v0, v1, .int .i64 t0, .int .i64 t1, .int .i64 t2, .int .i64 t3] T)).cell? ⟨w.heap.size, 3, none⟩ = some (.int .i64 t1) ∧ (w.alloc (.cells #[v0, v1, .int .i64 t0, .int .i64 t1, .int .i64 t2, .int .i64 t3] T)).cell? ⟨w.heap.size, 4, none⟩ = some (.int .i64 t2) ∧ (w.alloc (.cells #[v0, v1, .int .i64 t0, .int .i64 t1, .int .i64 t2, .int .i64 t3] T)).cell? ⟨w.heap.size, 5, none⟩ = some (.int .i64 t3) := by
  have hb := heap_alloc_last w (.cells #[v0, v1, .int .i64 t0, .int .i64 t1, .int .i64 t2, .int .i64 t3] T)
  exact ⟨(cell_of_heap hb).trans rfl, (cell_of_heap hb).trans rfl, (cell_of_heap hb).trans rfl, (cell_of_heap hb).trans rfl, (cell_of_heap hb).trans rfl, (cell_of_heap hb).trans rfl⟩
set_option maxHeartbeats 4000000 in
set_option maxRecDepth 100000 in
theorem funcShS_ok (lo : Nat) (d : FuncD) (u0 : Option Addr) (c0 : Nat) (u2 : Option Addr) (c2 : Nat) (funcs : Int) (w : World) (hs : SmFunc d) (k0 : IntsAt w lo u0 d.params) (k2 : BlocksAt w lo u2 d.blocks) (g2 : 0 ≤ funcs) (g3 : funcs ≤ 4611686018427387904) (hp : d.params.length ≤ 4) (hr : widthB d.ret = true) (hb1 : 1 ≤ d.blocks.length) (hb2 : d.blocks.length ≤ 10) (hc : cntF d ≤ 60) :
    Calls Tryz.prog 15 #[.agg #[.slice u0 d.params.length c0, .int .i64 d.ret, .slice u2 d.blocks.length c2], .int .i64 funcs] w fun e w' => e = .returned (.bool (funcB funcs d)) ∧ Below w.heap.size w w' := by
  have HS : Hid (∀ p ∈ d.blocks, SmBlock p) := hs.2.2
  have F0 := FBox.start (d := d) (u0 := u0) (u2 := u2) (c0 := c0) (c2 := c2) (w := w) (T := 27)
  have i1 : ¬ (4 : Int) < d.params.length := by omega
  have i2 : (decide (1 ≤ (d.blocks.length : Int)) && decide ((d.blocks.length : Int) ≤ 10)) = true := by simp; omega
  have i4 : ¬ (60 : Int) < cntF d := by omega
  go_enter Tryz.func15, Tryz.ntmps15
  go_wp2_with fail
  refine (countS_any lo d u0 c0 u2 c2 _ hs (k2.keep (agree_of_below F0.below lo))).mono ?_
  rintro e w1 ⟨rfl, hb1'⟩
  have F1 := F0.keep hb1'
  have b0 := F1.a0
  have b1 := F1.a1
  have b2 := F1.a2
  clear hb1' F0
  go_wp2_with (first | (go_at_call 29; refine (widthS _ _).mono ?_; rintro e w' ⟨rfl, rfl⟩) | (go_at_call 30; refine (inS _ _ _ _).mono ?_; rw [i2]; rintro e w' ⟨rfl, rfl⟩))
  have HP0 : Hid (d.params.all widthB = false → false = funcB funcs d) := fun h => by simp [funcB, h]
  have HE : Hid (d.params.all widthB = true → funcB funcs d = d.blocks.all (blockB (cntF d) d.blocks.length funcs)) := fun ha => by simp [funcB, hp, ha, hr, hb1, hb2, hc]
  have K0 := k0.keep (agree_of_below F1.below lo)
  go_loop [7] (fun i => ∃ k : Nat, k ≤ d.params.length ∧ i = .int .i64 k ∧ Hid (∀ j, j < k → widthB (d.params.getD j 0) = true)) (fun i => d.params.length - (intOf i).toNat)
  case atStart => exact ⟨0, by omega, rfl, fun j hj => by omega⟩
  case round =>
    obtain ⟨k, hk, rfl, HD⟩ := hrel
    by_cases hlt : k < d.params.length
    · rcases K0.2 with hn | ⟨bb, off, rfl, hlo, hb, hcell⟩
      · simp [hn] at hlt
      have e0 := hcell k hlt
      generalize hx : d.params.getD k 0 = x at e0
      have HX : Hid (d.params.getD k 0 = x) := hx
      clear hcell hx K0 k0
      cases hw : widthB x with
      | true =>
        have HP : Hid (widthB x = true) := hw
        go_wp2_with (go_at_call 29; refine (widthS _ _).mono ?_; rintro e w' ⟨rfl, rfl⟩)
        exact ⟨⟨k + 1, by omega, by go_num, fun j hj => by
          by_cases e : j = k
          · subst e; rw [HX.out]; exact HP.out
          · exact HD.out j (by omega)⟩, by simp only [intOf]; omega⟩
      | false =>
        have HF : Hid (false = funcB funcs d) := HP0.out (all_no 0 d.params k hlt (by rw [HX.out, hw]; decide))
        go_wp2_with (go_at_call 29; refine (widthS _ _).mono ?_; rintro e w' ⟨rfl, rfl⟩)
        go_ret
        exact ⟨ret_bool HF.out, F1.below⟩
    · have HQ : Hid (funcB funcs d = d.blocks.all (blockB (cntF d) d.blocks.length funcs)) := HE.out (all_yes 0 d.params (fun j hj => HD.out j (by omega)))
      clear HE HP0 HD K0 k0
      go_wp2_with fail
      clear b0 b1 b2
      go_loopw [8] (fun i wr => ∃ j : Nat, j ≤ d.blocks.length ∧ i = .int .i64 j ∧ Hid (∀ k, k < j → blockB (cntF d) d.blocks.length funcs (d.blocks.getD k block0) = true) ∧ FBox d u0 c0 u2 c2 w wr) (fun i _ => d.blocks.length - (intOf i).toNat)
      case atStart => exact ⟨0, by omega, rfl, fun k hk => by omega, F1⟩
      case round =>
        obtain ⟨j, hj, rfl, HD, hF⟩ := hrel
        obtain ⟨wo, hwo⟩ : ∃ wo, wo = wr := ⟨_, rfl⟩
        subst hwo
        clear F1
        have b0 := hF.a0
        have b1 := hF.a1
        have b2 := hF.a2
        have hW := hF.below
        by_cases hjl : j < d.blocks.length
        · rcases k2.2 with hn | ⟨bb, off, rfl, hlo, hbb, hcell⟩
          · simp [hn] at hjl
          obtain ⟨⟨p0, q0, h0, m0⟩, ⟨p1, q1, h1, m1⟩, h2, h3, h4, h5⟩ := hcell j hjl
          have hsm := HS.out _ (getD_mem block0 d.blocks j hjl)
          generalize hx : d.blocks.getD j block0 = x at h0 h1 h2 h3 h4 h5 m0 m1 hsm
          have HX : Hid (d.blocks.getD j block0 = x) := hx
          have f0 : wo.cell? ⟨bb, off + j * 6, none⟩ = some (.slice p0 x.phis.length q0) := (cell_block (hW.block bb hbb)).trans h0
          have f1 : wo.cell? ⟨bb, off + j * 6 + 1, none⟩ = some (.slice p1 x.insts.length q1) := (cell_block (hW.block bb hbb)).trans h1
          have f2 : wo.cell? ⟨bb, off + j * 6 + 2, none⟩ = some (.int .i64 x.term.kind) := (cell_block (hW.block bb hbb)).trans h2
          have f3 : wo.cell? ⟨bb, off + j * 6 + 3, none⟩ = some (.int .i64 x.term.a) := (cell_block (hW.block bb hbb)).trans h3
          have f4 : wo.cell? ⟨bb, off + j * 6 + 4, none⟩ = some (.int .i64 x.term.x) := (cell_block (hW.block bb hbb)).trans h4
          have f5 : wo.cell? ⟨bb, off + j * 6 + 5, none⟩ = some (.int .i64 x.term.y) := (cell_block (hW.block bb hbb)).trans h5
          have M0 := (m0.keep (agree_of_below hW lo)).keep (agree_alloc wo (.cells #[.slice p0 x.phis.length q0, .slice p1 x.insts.length q1, .int .i64 x.term.kind, .int .i64 x.term.a, .int .i64 x.term.x, .int .i64 x.term.y] 43) _)
          have M1 := (m1.keep (agree_of_below hW lo)).keep (agree_alloc wo (.cells #[.slice p0 x.phis.length q0, .slice p1 x.insts.length q1, .int .i64 x.term.kind, .int .i64 x.term.a, .int .i64 x.term.x, .int .i64 x.term.y] 43) _)
          have FX := hF.alloc (.cells #[.slice p0 x.phis.length q0, .slice p1 x.insts.length q1, .int .i64 x.term.kind, .int .i64 x.term.a, .int .i64 x.term.x, .int .i64 x.term.y] 43)
          have x6 := cells6b (w := wo) (v0 := .slice p0 x.phis.length q0) (v1 := .slice p1 x.insts.length q1) (t0 := x.term.kind) (t1 := x.term.a) (t2 := x.term.x) (t3 := x.term.y) (T := 43)
          have NO : Hid (blockB (cntF d) d.blocks.length funcs x = false → false = funcB funcs d) := fun h => by
            rw [HQ.out]; exact (all_no block0 d.blocks j hjl (by rw [HX.out, h]; decide)).symm
          have YES : Hid (blockB (cntF d) d.blocks.length funcs x = true → ∀ k, k < j + 1 → blockB (cntF d) d.blocks.length funcs (d.blocks.getD k block0) = true) := fun h k hk => by
            by_cases e : k = j
            · subst e; rw [HX.out]; exact h
            · exact HD.out k (by omega)
          have NP : Hid (x.phis.all (phiB (cntF d)) = false → false = funcB funcs d) := fun h => NO.out (by simp [blockB, h])
          have NI : Hid (x.insts.all (fun i => instB i (cntF d) funcs) = false → false = funcB funcs d) := fun h => NO.out (by simp [blockB, h])
          have NT : Hid (termB x.term (cntF d) d.blocks.length = false → false = funcB funcs d) := fun h => NO.out (by simp [blockB, h])
          have YT : Hid (x.phis.all (phiB (cntF d)) = true → x.insts.all (fun i => instB i (cntF d) funcs) = true → termB x.term (cntF d) d.blocks.length = true → blockB (cntF d) d.blocks.length funcs x = true) := fun h h' h'' => by simp [blockB, h, h', h'']
          have sp0 := hsm.1.1
          have sp1 := hsm.2.1
          have SP : Hid (∀ p ∈ x.phis, SmPhi p) := hsm.1.2
          have SN : Hid (∀ p ∈ x.insts, SmInst p) := hsm.2.2
          have HBL : Hid (wo.heap.size < (wo.alloc (.cells #[.slice p0 x.phis.length q0, .slice p1 x.insts.length q1, .int .i64 x.term.kind, .int .i64 x.term.a, .int .i64 x.term.x, .int .i64 x.term.y] 43)).heap.size) := by show _ < _; simp
          clear hcell h0 h1 h2 h3 h4 h5 m0 m1 hsm hx hF hW HD k2 NO
          go_wp2_with fail
          clear f0 f1 f2 f3 f4 f5 b0 b1 b2
          generalize wo.alloc (.cells #[.slice p0 x.phis.length q0, .slice p1 x.insts.length q1, .int .i64 x.term.kind, .int .i64 x.term.a, .int .i64 x.term.x, .int .i64 x.term.y] 43) = wx at M0 M1 FX x6 HBL ⊢
          obtain ⟨x0, x1, x2, x3, x4, x5⟩ := x6
          go_loop [10] (fun i => ∃ k : Nat, k ≤ x.phis.length ∧ i = .int .i64 k ∧ Hid (∀ m, m < k → phiB (cntF d) (x.phis.getD m phi0) = true)) (fun i => x.phis.length - (intOf i).toNat)
          case atStart => exact ⟨0, by omega, rfl, fun m hm => by omega⟩
          case round =>
            obtain ⟨k, hk, rfl, HD⟩ := hrel
            by_cases hkl : k < x.phis.length
            · rcases M0.2 with hn | ⟨pb, po, rfl, hplo, hpb, hpc⟩
              · simp [hn] at hkl
              obtain ⟨y0, ⟨iu, iq, y1, im⟩⟩ := hpc k hkl
              have hsp := SP.out _ (getD_mem phi0 x.phis k hkl)
              generalize hp : x.phis.getD k phi0 = p at y0 y1 im hsp
              have HPk : Hid (x.phis.getD k phi0 = p) := hp
              have hsp' : p.ins.length ≤ 1048576 := hsp
              have NP1 : Hid (¬ phiB (cntF d) p = true → false = funcB funcs d) := fun h => NP.out (all_no phi0 x.phis k hkl (by rw [HPk.out]; exact h))
              have YP1 : Hid (phiB (cntF d) p = true → ∀ m, m < k + 1 → phiB (cntF d) (x.phis.getD m phi0) = true) := fun h m hm => by
                by_cases e : m = k
                · subst e; rw [HPk.out]; exact h
                · exact HD.out m (by omega)
              clear hpc hp hsp HD M0 M1 NP NI NT YT
              cases hw : widthB p.w with
              | false =>
                have HF : Hid (false = funcB funcs d) := NP1.out (phiB_w hw)
                go_wp2_with (go_at_call 29; refine (widthS _ _).mono ?_; rintro e w' ⟨rfl, rfl⟩)
                go_ret
                exact ⟨ret_bool HF.out, FX.below⟩
              | true =>
                by_cases hl : p.ins.length ≤ 10
                · have hl2 : ¬ (10 : Int) < p.ins.length := by omega
                  go_wp2_with (go_at_call 29; refine (widthS _ _).mono ?_; rintro e w' ⟨rfl, rfl⟩)
                  go_loop [11] (fun i => ∃ m : Nat, m ≤ p.ins.length ∧ i = .int .i64 m ∧ Hid (∀ n, n < m → belowB (p.ins.getD n 0) (cntF d) = true)) (fun i => p.ins.length - (intOf i).toNat)
                  case atStart => exact ⟨0, by omega, rfl, fun n hn => by omega⟩
                  case round =>
                    obtain ⟨m, hm, rfl, HG⟩ := hrel
                    by_cases hml : m < p.ins.length
                    · rcases im.2 with hn | ⟨nb, no, rfl, hnlo, hnb, hnc⟩
                      · simp [hn] at hml
                      have e0 := hnc m hml
                      generalize hv : p.ins.getD m 0 = v at e0
                      have HV : Hid (p.ins.getD m 0 = v) := hv
                      clear hnc hv im
                      cases hbv : belowB v (cntF d) with
                      | true =>
                        have HB1 : Hid (belowB v (cntF d) = true) := hbv
                        go_wp2_with (go_at_call 30; refine (inB _ _ _).mono ?_; rintro e w' ⟨rfl, rfl⟩)
                        exact ⟨⟨m + 1, by omega, by go_num, fun n hn => by
                          by_cases e : n = m
                          · subst e; rw [HV.out]; exact HB1.out
                          · exact HG.out n (by omega)⟩, by simp only [intOf]; omega⟩
                      | false =>
                        have HF : Hid (false = funcB funcs d) := NP1.out (phiB_a (all_no 0 p.ins m hml (by rw [HV.out, hbv]; decide)))
                        go_wp2_with (go_at_call 30; refine (inB _ _ _).mono ?_; rintro e w' ⟨rfl, rfl⟩)
                        go_ret
                        exact ⟨ret_bool HF.out, FX.below⟩
                    · have HF : Hid (∀ m, m < k + 1 → phiB (cntF d) (x.phis.getD m phi0) = true) := YP1.out (phiB_t hw hl (all_yes 0 p.ins (fun n hn => HG.out n (by omega))))
                      go_wp2_with fail
                      exact ⟨⟨k + 1, by omega, by go_num, HF.out⟩, by simp only [intOf]; omega⟩
                · have HF : Hid (false = funcB funcs d) := NP1.out (phiB_l hl)
                  have hl2 : (10 : Int) < p.ins.length := by omega
                  go_wp2_with (go_at_call 29; refine (widthS _ _).mono ?_; rintro e w' ⟨rfl, rfl⟩)
                  go_ret
                  exact ⟨ret_bool HF.out, FX.below⟩
            · have HPA : Hid (x.phis.all (phiB (cntF d)) = true) := all_yes phi0 x.phis (fun m hm => HD.out m (by omega))
              clear HD M0 NP
              go_wp2_with fail
              go_loopw [12] (fun i wr => ∃ k : Nat, k ≤ x.insts.length ∧ i = .int .i64 k ∧ Hid (∀ m, m < k → instB (x.insts.getD m inst0) (cntF d) funcs = true) ∧ Below wx.heap.size wx wr) (fun i _ => x.insts.length - (intOf i).toNat)
              case atStart => exact ⟨0, by omega, rfl, fun m hm => by omega, Below.refl _ _⟩
              case round =>
                obtain ⟨k, hk, rfl, HD, hB⟩ := hrel
                obtain ⟨wq, hwq⟩ : ∃ wq, wq = wr := ⟨_, rfl⟩
                subst hwq
                have v0 := (cell_block (hB.block wo.heap.size HBL.out)).trans x0
                have v1 := (cell_block (hB.block wo.heap.size HBL.out)).trans x1
                have v2 := (cell_block (hB.block wo.heap.size HBL.out)).trans x2
                have v3 := (cell_block (hB.block wo.heap.size HBL.out)).trans x3
                have v4 := (cell_block (hB.block wo.heap.size HBL.out)).trans x4
                have v5 := (cell_block (hB.block wo.heap.size HBL.out)).trans x5
                have FQ := FX.keep hB
                by_cases hkl : k < x.insts.length
                · rcases M1.2 with hn | ⟨pb, po, rfl, hplo, hpb, hpc⟩
                  · simp [hn] at hkl
                  obtain ⟨i0, i1, i2, i3, i4, i5, ⟨iu, iq, i6, im⟩⟩ := hpc k hkl
                  have hsp := SN.out _ (getD_mem inst0 x.insts k hkl)
                  generalize hp : x.insts.getD k inst0 = p at i0 i1 i2 i3 i4 i5 i6 im hsp
                  have HPk : Hid (x.insts.getD k inst0 = p) := hp
                  have g0 : wq.cell? ⟨pb, po + k * 7, none⟩ = some (.int .i64 p.op) := (cell_block (hB.block pb hpb)).trans i0
                  have g1 : wq.cell? ⟨pb, po + k * 7 + 1, none⟩ = some (.int .i64 p.w) := (cell_block (hB.block pb hpb)).trans i1
                  have g2' : wq.cell? ⟨pb, po + k * 7 + 2, none⟩ = some (.int .i64 p.a) := (cell_block (hB.block pb hpb)).trans i2
                  have g3' : wq.cell? ⟨pb, po + k * 7 + 3, none⟩ = some (.int .i64 p.b) := (cell_block (hB.block pb hpb)).trans i3
                  have g4 : wq.cell? ⟨pb, po + k * 7 + 4, none⟩ = some (.int .i64 p.c) := (cell_block (hB.block pb hpb)).trans i4
                  have g5 : wq.cell? ⟨pb, po + k * 7 + 5, none⟩ = some (.int .i64 p.imm) := (cell_block (hB.block pb hpb)).trans i5
                  have g6 : wq.cell? ⟨pb, po + k * 7 + 6, none⟩ = some (.slice iu p.args.length iq) := (cell_block (hB.block pb hpb)).trans i6
                  have IM := im.keep (agree_of_below hB lo)
                  have hsp' : p.args.length ≤ 1048576 := hsp
                  have B : ∀ B, instB p (cntF d) funcs = B → Calls Tryz.prog 31 #[.agg #[.int .i64 p.op, .int .i64 p.w, .int .i64 p.a, .int .i64 p.b, .int .i64 p.c, .int .i64 p.imm, .slice iu p.args.length iq], .int .i64 (cntF d), .int .i64 funcs] wq fun e w' => e = .returned (.bool B) ∧ Below wq.heap.size wq w' := fun B h => by
                    rw [← h]; exact instShS lo p iu iq (cntF d) funcs wq (by omega) (by omega) g2 g3 hsp' IM
                  have NI1 : Hid (instB p (cntF d) funcs = false → false = funcB funcs d) := fun h => NI.out (all_no inst0 x.insts k hkl (by rw [HPk.out, h]; decide))
                  have YI1 : Hid (instB p (cntF d) funcs = true → ∀ m, m < k + 1 → instB (x.insts.getD m inst0) (cntF d) funcs = true) := fun h m hm => by
                    by_cases e : m = k
                    · subst e; rw [HPk.out]; exact h
                    · exact HD.out m (by omega)
                  have HBQ : Hid (Below wx.heap.size wx wq) := hB
                  clear hpc i0 i1 i2 i3 i4 i5 i6 im hsp hp hB HD M1 NI NT YT IM
                  cases hb : instB p (cntF d) funcs with
                  | false =>
                    have HF : Hid (false = funcB funcs d) := NI1.out hb
                    have BB := B _ hb
                    clear B
                    go_wp2_with (go_at_call 31; refine BB.mono ?_; rintro e w3 ⟨rfl, hb3⟩)
                    go_ret
                    exact ⟨ret_bool HF.out, (FQ.keep hb3).below⟩
                  | true =>
                    have HF : Hid (∀ m, m < k + 1 → instB (x.insts.getD m inst0) (cntF d) funcs = true) := YI1.out hb
                    have BB := B _ hb
                    clear B
                    go_wp2_with (go_at_call 31; refine BB.mono ?_; rintro e w3 ⟨rfl, hb3⟩)
                    go_roundw
                    case rel => exact ⟨k + 1, by omega, by go_num, HF.out, HBQ.out.trans (hb3.mono HBQ.out.size)⟩
                    case measure => simp [intOf]; omega
                · have HIA : Hid (x.insts.all (fun i => instB i (cntF d) funcs) = true) := all_yes inst0 x.insts (fun m hm => HD.out m (by omega))
                  have T : ∀ B, termB x.term (cntF d) d.blocks.length = B → Calls Tryz.prog 32 #[.agg #[.int .i64 x.term.kind, .int .i64 x.term.a, .int .i64 x.term.x, .int .i64 x.term.y], .int .i64 (cntF d), .int .i64 d.blocks.length] wq fun e w' => e = .returned (.bool B) ∧ Below wq.heap.size wq w' := fun B h => by
                    rw [← h]; exact termShS x.term (cntF d) d.blocks.length wq (by omega) (by omega) (by omega) (by omega)
                  clear HD M1 NI hB
                  cases hb : termB x.term (cntF d) d.blocks.length with
                  | false =>
                    have HF : Hid (false = funcB funcs d) := NT.out hb
                    have TT := T _ hb
                    clear T NT YT
                    go_wp2_with (go_at_call 32; refine TT.mono ?_; rintro e w3 ⟨rfl, hb3⟩)
                    go_ret
                    exact ⟨ret_bool HF.out, (FQ.keep hb3).below⟩
                  | true =>
                    have HF : Hid (∀ k, k < j + 1 → blockB (cntF d) d.blocks.length funcs (d.blocks.getD k block0) = true) := YES.out (YT.out HPA.out HIA.out hb)
                    have TT := T _ hb
                    clear T NT YT
                    go_wp2_with (go_at_call 32; refine TT.mono ?_; rintro e w3 ⟨rfl, hb3⟩)
                    go_roundw
                    case rel => exact ⟨j + 1, by omega, by go_num, HF.out, FQ.keep hb3⟩
                    case measure => simp [intOf]; omega
        · have HF : Hid (true = funcB funcs d) := by
            show _ = _
            rw [HQ.out]; exact (all_yes block0 d.blocks (fun k hk => HD.out k (by omega))).symm
          go_wp2_with fail
          go_ret
          exact ⟨ret_bool HF.out, hW⟩
end Go.Proofs.YtclagbdomfgodaaGreatDoor
namespace Go.Proofs.YtclagbdomfgodaaGreatDoor
open Go.RowKit
set_option linter.unusedVariables false

set_option maxHeartbeats 2000000 in
set_option maxRecDepth 100000 in
theorem funcShS_p (lo : Nat) (d : FuncD) (u0 : Option Addr) (c0 : Nat) (u2 : Option Addr) (c2 : Nat) (funcs : Int) (w : World) (hs : SmFunc d) (k0 : IntsAt w lo u0 d.params) (k2 : BlocksAt w lo u2 d.blocks) (hp : ¬ d.params.length ≤ 4) : Calls Tryz.prog 15 #[.agg #[.slice u0 d.params.length c0, .int .i64 d.ret, .slice u2 d.blocks.length c2], .int .i64 funcs] w fun e w' => e = .returned (.bool (funcB funcs d)) ∧ Below w.heap.size w w' := by
  have HR : Hid (false = funcB funcs d) := by show _ = _; simp [funcB, hp]
  have F0 := FBox.start (d := d) (u0 := u0) (u2 := u2) (c0 := c0) (c2 := c2) (w := w) (T := 27)
  have hbl := hs.2.1
  have i1 : (4 : Int) < d.params.length := by omega
  go_enter Tryz.func15, Tryz.ntmps15
  go_wp2_with fail
  refine (countS_any lo d u0 c0 u2 c2 _ hs (k2.keep (agree_of_below F0.below lo))).mono ?_
  rintro e w1 ⟨rfl, hb1'⟩
  have F1 := F0.keep hb1'
  have b0 := F1.a0
  have b1 := F1.a1
  have b2 := F1.a2
  clear hb1' F0
  go_wp2_with fail
  go_ret
  exact ⟨ret_bool HR.out, F1.below⟩
set_option maxHeartbeats 2000000 in
set_option maxRecDepth 100000 in
theorem funcShS_r (lo : Nat) (d : FuncD) (u0 : Option Addr) (c0 : Nat) (u2 : Option Addr) (c2 : Nat) (funcs : Int) (w : World) (hs : SmFunc d) (k0 : IntsAt w lo u0 d.params) (k2 : BlocksAt w lo u2 d.blocks) (hp : d.params.length ≤ 4) (hr : widthB d.ret = false) : Calls Tryz.prog 15 #[.agg #[.slice u0 d.params.length c0, .int .i64 d.ret, .slice u2 d.blocks.length c2], .int .i64 funcs] w fun e w' => e = .returned (.bool (funcB funcs d)) ∧ Below w.heap.size w w' := by
  have HR : Hid (false = funcB funcs d) := by show _ = _; simp [funcB, hr]
  have F0 := FBox.start (d := d) (u0 := u0) (u2 := u2) (c0 := c0) (c2 := c2) (w := w) (T := 27)
  have hbl := hs.2.1
  have i1 : ¬ (4 : Int) < d.params.length := by omega
  go_enter Tryz.func15, Tryz.ntmps15
  go_wp2_with fail
  refine (countS_any lo d u0 c0 u2 c2 _ hs (k2.keep (agree_of_below F0.below lo))).mono ?_
  rintro e w1 ⟨rfl, hb1'⟩
  have F1 := F0.keep hb1'
  have b0 := F1.a0
  have b1 := F1.a1
  have b2 := F1.a2
  clear hb1' F0
  go_wp2_with (first | (go_at_call 29; refine (widthS _ _).mono ?_; rintro e w' ⟨rfl, rfl⟩))
  go_ret
  exact ⟨ret_bool HR.out, F1.below⟩
set_option maxHeartbeats 2000000 in
set_option maxRecDepth 100000 in
theorem funcShS_b (lo : Nat) (d : FuncD) (u0 : Option Addr) (c0 : Nat) (u2 : Option Addr) (c2 : Nat) (funcs : Int) (w : World) (hs : SmFunc d) (k0 : IntsAt w lo u0 d.params) (k2 : BlocksAt w lo u2 d.blocks) (hp : d.params.length ≤ 4) (hr : widthB d.ret = true) (hb : ¬ (1 ≤ d.blocks.length ∧ d.blocks.length ≤ 10)) : Calls Tryz.prog 15 #[.agg #[.slice u0 d.params.length c0, .int .i64 d.ret, .slice u2 d.blocks.length c2], .int .i64 funcs] w fun e w' => e = .returned (.bool (funcB funcs d)) ∧ Below w.heap.size w w' := by
  have HR : Hid (false = funcB funcs d) := by show _ = _; (by_cases q : 1 ≤ d.blocks.length <;> by_cases q2 : d.blocks.length ≤ 10 <;> simp [funcB, q, q2] <;> omega)
  have F0 := FBox.start (d := d) (u0 := u0) (u2 := u2) (c0 := c0) (c2 := c2) (w := w) (T := 27)
  have hbl := hs.2.1
  have i1 : ¬ (4 : Int) < d.params.length := by omega
  have i2 : (decide (1 ≤ (d.blocks.length : Int)) && decide ((d.blocks.length : Int) ≤ 10)) = false := by simp; omega
  go_enter Tryz.func15, Tryz.ntmps15
  go_wp2_with fail
  refine (countS_any lo d u0 c0 u2 c2 _ hs (k2.keep (agree_of_below F0.below lo))).mono ?_
  rintro e w1 ⟨rfl, hb1'⟩
  have F1 := F0.keep hb1'
  have b0 := F1.a0
  have b1 := F1.a1
  have b2 := F1.a2
  clear hb1' F0
  go_wp2_with (first | (go_at_call 29; refine (widthS _ _).mono ?_; rintro e w' ⟨rfl, rfl⟩) | (go_at_call 30; refine (inS _ _ _ _).mono ?_; rw [i2]; rintro e w' ⟨rfl, rfl⟩))
  go_ret
  exact ⟨ret_bool HR.out, F1.below⟩
set_option maxHeartbeats 2000000 in
set_option maxRecDepth 100000 in
theorem funcShS_n (lo : Nat) (d : FuncD) (u0 : Option Addr) (c0 : Nat) (u2 : Option Addr) (c2 : Nat) (funcs : Int) (w : World) (hs : SmFunc d) (k0 : IntsAt w lo u0 d.params) (k2 : BlocksAt w lo u2 d.blocks) (hp : d.params.length ≤ 4) (hr : widthB d.ret = true) (hb : (1 ≤ d.blocks.length ∧ d.blocks.length ≤ 10)) (hn : ¬ cntF d ≤ 60) : Calls Tryz.prog 15 #[.agg #[.slice u0 d.params.length c0, .int .i64 d.ret, .slice u2 d.blocks.length c2], .int .i64 funcs] w fun e w' => e = .returned (.bool (funcB funcs d)) ∧ Below w.heap.size w w' := by
  have HR : Hid (false = funcB funcs d) := by show _ = _; simp [funcB, hn]
  have F0 := FBox.start (d := d) (u0 := u0) (u2 := u2) (c0 := c0) (c2 := c2) (w := w) (T := 27)
  have hbl := hs.2.1
  have i1 : ¬ (4 : Int) < d.params.length := by omega
  have i2 : (decide (1 ≤ (d.blocks.length : Int)) && decide ((d.blocks.length : Int) ≤ 10)) = true := by simp; omega
  have i4 : (60 : Int) < cntF d := by omega
  go_enter Tryz.func15, Tryz.ntmps15
  go_wp2_with fail
  refine (countS_any lo d u0 c0 u2 c2 _ hs (k2.keep (agree_of_below F0.below lo))).mono ?_
  rintro e w1 ⟨rfl, hb1'⟩
  have F1 := F0.keep hb1'
  have b0 := F1.a0
  have b1 := F1.a1
  have b2 := F1.a2
  clear hb1' F0
  go_wp2_with (first | (go_at_call 29; refine (widthS _ _).mono ?_; rintro e w' ⟨rfl, rfl⟩) | (go_at_call 30; refine (inS _ _ _ _).mono ?_; rw [i2]; rintro e w' ⟨rfl, rfl⟩))
  go_ret
  exact ⟨ret_bool HR.out, F1.below⟩
theorem funcShS (lo : Nat) (d : FuncD) (u0 : Option Addr) (c0 : Nat) (u2 : Option Addr) (c2 : Nat) (funcs : Int) (w : World) (hs : SmFunc d) (k0 : IntsAt w lo u0 d.params) (k2 : BlocksAt w lo u2 d.blocks) (g2 : 0 ≤ funcs) (g3 : funcs ≤ 4611686018427387904) : Calls Tryz.prog 15 #[.agg #[.slice u0 d.params.length c0, .int .i64 d.ret, .slice u2 d.blocks.length c2], .int .i64 funcs] w fun e w' => e = .returned (.bool (funcB funcs d)) ∧ Below w.heap.size w w' := by
  by_cases hp : d.params.length ≤ 4
  · cases hr : widthB d.ret with
    | false => exact funcShS_r lo d u0 c0 u2 c2 funcs w hs k0 k2 hp hr
    | true =>
      by_cases hb : 1 ≤ d.blocks.length ∧ d.blocks.length ≤ 10
      · by_cases hn : cntF d ≤ 60
        · exact funcShS_ok lo d u0 c0 u2 c2 funcs w hs k0 k2 g2 g3 hp hr hb.1 hb.2 hn
        · exact funcShS_n lo d u0 c0 u2 c2 funcs w hs k0 k2 hp hr hb hn
      · exact funcShS_b lo d u0 c0 u2 c2 funcs w hs k0 k2 hp hr hb
  · exact funcShS_p lo d u0 c0 u2 c2 funcs w hs k0 k2 hp
end Go.Proofs.YtclagbdomfgodaaGreatDoor
