import Derived.Test.YtojhakjkfkmklaaGreatDoorFmDV
import Derived.Test.YtojhakjkfkmklaaGreatDoorMemV
import Derived.Test.YtojhakjkfkmklaaGreatDoorRows
import Derived.WalkKit
import Derived.WalkSpells
namespace Go.Proofs.YtojhakjkfkmklaaGreatDoor
open Go.RowKit
set_option linter.unusedVariables false
def phiB (ids : Int) (p : PhiD) : Bool := widthB p.w && decide (p.ins.length ≤ 10) && p.ins.all fun n => belowB n ids
def blockB (ids blocks funcs : Int) (b : BlockD) : Bool := b.phis.all (phiB ids) && b.insts.all (fun i => instB i ids funcs) && termB b.term ids blocks
def funcB (funcs : Int) (d : FuncD) : Bool := decide (d.params.length ≤ 4) && d.params.all widthB && widthB d.ret && decide (1 ≤ d.blocks.length) && decide (d.blocks.length ≤ 10) && decide (cntF d ≤ 60) && d.blocks.all (blockB (cntF d) d.blocks.length funcs)
def modB (l : List FuncD) : Bool := decide (1 ≤ l.length) && decide (l.length ≤ 3) && l.all (funcB l.length)
theorem phiB_w {ids : Int} {p : PhiD} (h : widthB p.w = false) : ¬ phiB ids p = true := by simp [phiB, h]
theorem phiB_l {ids : Int} {p : PhiD} (h : ¬ p.ins.length ≤ 10) : ¬ phiB ids p = true := by simp [phiB, h]
theorem phiB_a {ids : Int} {p : PhiD} (h : (p.ins.all fun n => belowB n ids) = false) : ¬ phiB ids p = true := by simp [phiB, h]
theorem phiB_t {ids : Int} {p : PhiD} (h : widthB p.w = true) (h1 : p.ins.length ≤ 10) (h2 : (p.ins.all fun n => belowB n ids) = true) : phiB ids p = true := by simp [phiB, h, h1, h2]
structure RoomB (x : BlockD) (v0 : Option Addr) (q0 : Nat) (v1 : Option Addr) (q1 : Nat) (ids blocks funcs : Int) (w w1 : World) : Prop where
 cells : w1.cell? ⟨w.heap.size, 0, none⟩ = some (.slice v0 x.phis.length q0) ∧ w1.cell? ⟨w.heap.size, 1, none⟩ = some (.slice v1 x.insts.length q1) ∧ w1.cell? ⟨w.heap.size, 2, none⟩ = some (.int .i64 x.term.kind) ∧ w1.cell? ⟨w.heap.size, 3, none⟩ = some (.int .i64 x.term.a) ∧ w1.cell? ⟨w.heap.size, 4, none⟩ = some (.int .i64 x.term.x) ∧ w1.cell? ⟨w.heap.size, 5, none⟩ = some (.int .i64 x.term.y) ∧ w1.cell? ⟨w.heap.size + 1, 0, none⟩ = some (.int .i64 ids) ∧ w1.cell? ⟨w.heap.size + 1, 1, none⟩ = some (.int .i64 blocks) ∧ w1.cell? ⟨w.heap.size + 1, 2, none⟩ = some (.int .i64 funcs)
 below : Below w.heap.size w w1
 size : w.heap.size + 2 ≤ w1.heap.size
theorem RoomB.keep {x : BlockD} {v0 v1 : Option Addr} {q0 q1 : Nat} {ids blocks funcs : Int} {w w1 w2 : World} (h : RoomB x v0 q0 v1 q1 ids blocks funcs w w1) (k : Below w1.heap.size w1 w2) : RoomB x v0 q0 v1 q1 ids blocks funcs w w2 := by
 have hz := h.size
 have e0 : ∀ o, w2.cell? ⟨w.heap.size, o, none⟩ = w1.cell? ⟨w.heap.size, o, none⟩ := fun o => cell_block (k.block _ (by omega))
 have e1 : ∀ o, w2.cell? ⟨w.heap.size + 1, o, none⟩ = w1.cell? ⟨w.heap.size + 1, o, none⟩ := fun o => cell_block (k.block _ (by omega))
 refine ⟨?_, h.below.trans (k.mono (by omega)), Nat.le_trans hz k.size⟩
 simp only [e0, e1]
 exact h.cells
theorem RoomB.start {x : BlockD} {v0 v1 : Option Addr} {q0 q1 : Nat} {ids blocks funcs : Int} {w : World} : RoomB x v0 q0 v1 q1 ids blocks funcs w ((w.alloc (.cells #[.slice v0 x.phis.length q0, .slice v1 x.insts.length q1, .int .i64 x.term.kind, .int .i64 x.term.a, .int .i64 x.term.x, .int .i64 x.term.y] 86)).alloc (.cells #[.int .i64 ids, .int .i64 blocks, .int .i64 funcs] 110)) := by
 refine ⟨?_, ((Below.refl _ _).alloc (Nat.le_refl _) _).alloc (by simp) _, by simp⟩
 have hb := (Below.heap_alloc _ (.cells #[.int .i64 ids, .int .i64 blocks, .int .i64 funcs] 110) _ (by simp)).trans (heap_alloc_last w (.cells #[.slice v0 x.phis.length q0, .slice v1 x.insts.length q1, .int .i64 x.term.kind, .int .i64 x.term.a, .int .i64 x.term.x, .int .i64 x.term.y] 86))
 have hl := heap_alloc_last (w.alloc (.cells #[.slice v0 x.phis.length q0, .slice v1 x.insts.length q1, .int .i64 x.term.kind, .int .i64 x.term.a, .int .i64 x.term.x, .int .i64 x.term.y] 86)) (.cells #[.int .i64 ids, .int .i64 blocks, .int .i64 funcs] 110)
 have e : (w.alloc (.cells #[.slice v0 x.phis.length q0, .slice v1 x.insts.length q1, .int .i64 x.term.kind, .int .i64 x.term.a, .int .i64 x.term.x, .int .i64 x.term.y] 86)).heap.size = w.heap.size + 1 := by simp
 rw [e] at hl
 exact ⟨(cell_of_heap hb).trans rfl, (cell_of_heap hb).trans rfl, (cell_of_heap hb).trans rfl, (cell_of_heap hb).trans rfl, (cell_of_heap hb).trans rfl, (cell_of_heap hb).trans rfl, (cell_of_heap hl).trans rfl, (cell_of_heap hl).trans rfl, (cell_of_heap hl).trans rfl⟩
theorem RoomB.alloc {x : BlockD} {v0 v1 : Option Addr} {q0 q1 : Nat} {ids blocks funcs : Int} {w w1 : World} (h : RoomB x v0 q0 v1 q1 ids blocks funcs w w1) (o : Obj) : RoomB x v0 q0 v1 q1 ids blocks funcs w (w1.alloc o) := h.keep ((Below.refl _ _).alloc (Nat.le_refl _) o)
set_option maxHeartbeats 4000000 in
set_option maxRecDepth 100000 in
theorem blockShI (lo : Nat) (x : BlockD) (v0 : Option Addr) (q0 : Nat) (v1 : Option Addr) (q1 : Nat) (ids blocks funcs : Int) (w : World) (hs : SmBlock x) (m0 : PhisAt w lo v0 x.phis) (m1 : InstsAt w lo v1 x.insts) :
  Calls Tryz.prog 80 #[.agg #[.slice v0 x.phis.length q0, .slice v1 x.insts.length q1, .int .i64 x.term.kind, .int .i64 x.term.a, .int .i64 x.term.x, .int .i64 x.term.y], .agg #[.int .i64 ids, .int .i64 blocks, .int .i64 funcs]] w fun e w' => e = .returned (.bool (blockB ids blocks funcs x)) ∧ Below w.heap.size w w' := by
 have s0 := hs.1.1
 have s1 := hs.2.1
 have SP : Hid (∀ p ∈ x.phis, SmPhi p) := hs.1.2
 have SN : Hid (∀ p ∈ x.insts, SmInst p) := hs.2.2
 have HP : Hid ((x.phis.all (phiB ids)) = false → false = blockB ids blocks funcs x) := fun h => by simp [blockB, h]
 have HI : Hid ((x.insts.all (fun i => instB i ids funcs)) = false → false = blockB ids blocks funcs x) := fun h => by simp [blockB, h]
 have HT : Hid ((x.phis.all (phiB ids)) = true → (x.insts.all (fun i => instB i ids funcs)) = true → termB x.term ids blocks = blockB ids blocks funcs x) := fun h h' => by simp [blockB, h, h']
 clear hs
 go_enter Tryz.func80, Tryz.ntmps80
 go_wp2_with fail
 go_loopw [12] (fun i wr => ∃ j : Nat, j ≤ x.phis.length ∧ i = .int .i64 j ∧ Hid (∀ k, k < j → phiB ids (x.phis.getD k phi0) = true) ∧ RoomB x v0 q0 v1 q1 ids blocks funcs w wr) (fun i _ => x.phis.length - (intOf i).toNat)
 case atStart => exact ⟨0, by omega, rfl, fun k hk => by omega, RoomB.start⟩
 case round =>
  obtain ⟨j, hj, rfl, HD, hR⟩ := hrel
  obtain ⟨wp, hwp⟩ : ∃ wp, wp = wr := ⟨_, rfl⟩
  subst hwp
  obtain ⟨y0, y1, y2, y3, y4, y5, r0, r1, r2⟩ := hR.cells
  have hW := hR.below
  by_cases hjl : j < x.phis.length
  ·rcases m0.2 with hn | ⟨pb, po, rfl, hplo, hpb, hpc⟩
   ·simp [hn] at hjl
   obtain ⟨hi0, ⟨iu, iq, hi1, im⟩⟩ := hpc j hjl
   have hsp := SP.out _ (getD_mem phi0 x.phis j hjl)
   generalize hp : x.phis.getD j phi0 = p at hi0 hi1 im hsp
   have HPj : Hid (x.phis.getD j phi0 = p) := hp
   have f0 : wp.cell? ⟨pb, po + j * 2, none⟩ = some (.int .i64 p.w) := (cell_block (hW.block pb hpb)).trans hi0
   have f1 : wp.cell? ⟨pb, po + j * 2 + 1, none⟩ = some (.slice iu p.ins.length iq) := (cell_block (hW.block pb hpb)).trans hi1
   have IM := (im.keep (agree_of_below hW lo)).keep (agree_alloc wp (.cells #[.int .i64 p.w, .slice iu p.ins.length iq] 88) _)
   have hsp' : p.ins.length ≤ 1048576 := hsp
   have RR : Hid (RoomB x (some ⟨pb, po, none⟩) q0 v1 q1 ids blocks funcs w (wp.alloc (.cells #[.int .i64 p.w, .slice iu p.ins.length iq] 88))) := hR.alloc _
   have NO : Hid (¬ phiB ids p = true → false = blockB ids blocks funcs x) := fun h => HP.out (all_no phi0 x.phis j hjl (by rw [HPj.out]; exact h))
   have YES : Hid (phiB ids p = true → ∀ k, k < j + 1 → phiB ids (x.phis.getD k phi0) = true) := fun h k hk => by
    by_cases e : k = j
    ·subst e; rw [HPj.out]; exact h
    ·exact HD.out k (by omega)
   obtain ⟨_, _, _, _, _, _, t0, t1, t2⟩ := RR.out.cells
   clear hpc hi0 hi1 im hsp hp m0 m1 hR HD HP HI HT
   cases hw : widthB p.w with
   | false =>
    have HF : Hid (false = blockB ids blocks funcs x) := NO.out (phiB_w hw)
    go_wp2_with (go_at_call 78; refine (widthI _ _).mono ?_; rintro e w' ⟨rfl, rfl⟩)
    go_ret
    exact ⟨ret_bool HF.out, RR.out.below⟩
   | true =>
    by_cases hl : p.ins.length ≤ 10
    ·have hl2 : ¬ (10 : Int) < p.ins.length := by omega
     cases ha : (p.ins.all fun n => belowB n ids) with
     | false =>
      have HF : Hid (false = blockB ids blocks funcs x) := NO.out (phiB_a ha)
      go_wp2_with (first | (go_at_call 78; refine (widthI _ _).mono ?_; rintro e w' ⟨rfl, rfl⟩) | (go_at_call 111; refine (allBelowI lo _ _ _ _ _ IM).mono ?_; rw [ha]; rintro e w' ⟨rfl, rfl⟩))
      go_ret
      exact ⟨ret_bool HF.out, RR.out.below⟩
     | true =>
      have HF : Hid (phiB ids p = true) := phiB_t hw hl ha
      go_wp2_with (first | (go_at_call 78; refine (widthI _ _).mono ?_; rintro e w' ⟨rfl, rfl⟩) | (go_at_call 111; refine (allBelowI lo _ _ _ _ _ IM).mono ?_; rw [ha]; rintro e w' ⟨rfl, rfl⟩))
      go_roundw
      case rel => exact ⟨j + 1, by omega, by go_num, YES.out HF.out, RR.out⟩
      case measure => simp [intOf]; omega
    ·have HF : Hid (false = blockB ids blocks funcs x) := NO.out (phiB_l hl)
     have hl2 : (10 : Int) < p.ins.length := by omega
     go_wp2_with (go_at_call 78; refine (widthI _ _).mono ?_; rintro e w' ⟨rfl, rfl⟩)
     go_ret
     exact ⟨ret_bool HF.out, RR.out.below⟩
  ·have HPA : Hid ((x.phis.all (phiB ids)) = true) := all_yes phi0 x.phis (fun k hk => HD.out k (by omega))
   have RR : Hid (RoomB x v0 q0 v1 q1 ids blocks funcs w wp) := hR
   clear hR HD HP m0
   go_wp2_with fail
   clear y0 y1 y2 y3 y4 y5 r0 r1 r2
   go_loopw [38] (fun i wr => ∃ j : Nat, j ≤ x.insts.length ∧ i = .int .i64 j ∧ Hid (∀ k, k < j → instB (x.insts.getD k inst0) ids funcs = true) ∧ RoomB x v0 q0 v1 q1 ids blocks funcs w wr) (fun i _ => x.insts.length - (intOf i).toNat)
   case atStart => exact ⟨0, by omega, rfl, fun k hk => by omega, RR.out⟩
   case round =>
    obtain ⟨j, hj, rfl, HD, hR⟩ := hrel
    obtain ⟨wq, hwq⟩ : ∃ wq, wq = wr := ⟨_, rfl⟩
    subst hwq
    clear RR
    obtain ⟨y0, y1, y2, y3, y4, y5, r0, r1, r2⟩ := hR.cells
    have hW := hR.below
    by_cases hjl : j < x.insts.length
    ·rcases m1.2 with hn | ⟨pb, po, rfl, hplo, hpb, hpc⟩
     ·simp [hn] at hjl
     obtain ⟨i0, i1, i2, i3, i4, i5, ⟨iu, iq, i6, im⟩⟩ := hpc j hjl
     have hsp := SN.out _ (getD_mem inst0 x.insts j hjl)
     generalize hp : x.insts.getD j inst0 = p at i0 i1 i2 i3 i4 i5 i6 im hsp
     have HPj : Hid (x.insts.getD j inst0 = p) := hp
     have f0 : wq.cell? ⟨pb, po + j * 7, none⟩ = some (.int .i64 p.op) := (cell_block (hW.block pb hpb)).trans i0
     have f1 : wq.cell? ⟨pb, po + j * 7 + 1, none⟩ = some (.int .i64 p.w) := (cell_block (hW.block pb hpb)).trans i1
     have f2 : wq.cell? ⟨pb, po + j * 7 + 2, none⟩ = some (.int .i64 p.a) := (cell_block (hW.block pb hpb)).trans i2
     have f3 : wq.cell? ⟨pb, po + j * 7 + 3, none⟩ = some (.int .i64 p.b) := (cell_block (hW.block pb hpb)).trans i3
     have f4 : wq.cell? ⟨pb, po + j * 7 + 4, none⟩ = some (.int .i64 p.c) := (cell_block (hW.block pb hpb)).trans i4
     have f5 : wq.cell? ⟨pb, po + j * 7 + 5, none⟩ = some (.int .i64 p.imm) := (cell_block (hW.block pb hpb)).trans i5
     have f6 : wq.cell? ⟨pb, po + j * 7 + 6, none⟩ = some (.slice iu p.args.length iq) := (cell_block (hW.block pb hpb)).trans i6
     have IM := (im.keep (agree_of_below hW lo)).keep (agree_alloc wq (.cells #[.int .i64 p.op, .int .i64 p.w, .int .i64 p.a, .int .i64 p.b, .int .i64 p.c, .int .i64 p.imm, .slice iu p.args.length iq] 91) _)
     have hsp' : p.args.length ≤ 1048576 := hsp
     have RR : Hid (RoomB x v0 q0 (some ⟨pb, po, none⟩) q1 ids blocks funcs w (wq.alloc (.cells #[.int .i64 p.op, .int .i64 p.w, .int .i64 p.a, .int .i64 p.b, .int .i64 p.c, .int .i64 p.imm, .slice iu p.args.length iq] 91))) := hR.alloc _
     have NO : Hid (instB p ids funcs = false → false = blockB ids blocks funcs x) := fun h => HI.out (all_no inst0 x.insts j hjl (by rw [HPj.out, h]; decide))
     have YES : Hid (instB p ids funcs = true → ∀ k, k < j + 1 → instB (x.insts.getD k inst0) ids funcs = true) := fun h k hk => by
      by_cases e : k = j
      ·subst e; rw [HPj.out]; exact h
      ·exact HD.out k (by omega)
     have B : ∀ B, instB p ids funcs = B → Calls Tryz.prog 112 #[.agg #[.int .i64 p.op, .int .i64 p.w, .int .i64 p.a, .int .i64 p.b, .int .i64 p.c, .int .i64 p.imm, .slice iu p.args.length iq], .agg #[.int .i64 ids, .int .i64 blocks, .int .i64 funcs]] (wq.alloc (.cells #[.int .i64 p.op, .int .i64 p.w, .int .i64 p.a, .int .i64 p.b, .int .i64 p.c, .int .i64 p.imm, .slice iu p.args.length iq] 91)) fun e w' => e = .returned (.bool B) ∧ Below (wq.alloc (.cells #[.int .i64 p.op, .int .i64 p.w, .int .i64 p.a, .int .i64 p.b, .int .i64 p.c, .int .i64 p.imm, .slice iu p.args.length iq] 91)).heap.size (wq.alloc (.cells #[.int .i64 p.op, .int .i64 p.w, .int .i64 p.a, .int .i64 p.b, .int .i64 p.c, .int .i64 p.imm, .slice iu p.args.length iq] 91)) w' := fun B h => by
      rw [← h]; exact instShI lo p iu iq ids blocks funcs _ hsp' IM
     have RA := hR.alloc (.cells #[.int .i64 p.op, .int .i64 p.w, .int .i64 p.a, .int .i64 p.b, .int .i64 p.c, .int .i64 p.imm, .slice iu p.args.length iq] 91)
     obtain ⟨_, _, _, _, _, _, t0, t1, t2⟩ := RA.cells
     clear hpc i0 i1 i2 i3 i4 i5 i6 im hsp hp m1 hR HD HI HT IM RA
     cases hb : instB p ids funcs with
     | false =>
      have HF : Hid (false = blockB ids blocks funcs x) := NO.out hb
      have BB := B _ hb
      clear B
      go_wp2_with (go_at_call 112; refine BB.mono ?_; rintro e w2 ⟨rfl, hb2⟩)
      go_ret
      exact ⟨ret_bool HF.out, (RR.out.keep hb2).below⟩
     | true =>
      have HF : Hid (instB p ids funcs = true) := hb
      have BB := B _ hb
      clear B
      go_wp2_with (go_at_call 112; refine BB.mono ?_; rintro e w2 ⟨rfl, hb2⟩)
      go_roundw
      case rel => exact ⟨j + 1, by omega, by go_num, YES.out HF.out, RR.out.keep hb2⟩
      case measure => simp [intOf]; omega
    ·have HF : Hid (termB x.term ids blocks = blockB ids blocks funcs x) := HT.out HPA.out (all_yes inst0 x.insts (fun k hk => HD.out k (by omega)))
     have RR : Hid (RoomB x v0 q0 v1 q1 ids blocks funcs w wq) := hR
     clear hR HD HI HT m1
     go_wp2_with (go_at_call 113; refine (termShI x.term _ _ _ _).mono ?_; rintro e w2 ⟨rfl, hb2⟩)
     go_ret
     exact ⟨ret_bool HF.out, (RR.out.keep hb2).below⟩
end Go.Proofs.YtojhakjkfkmklaaGreatDoor
namespace Go.Proofs.YtojhakjkfkmklaaGreatDoor
open Go.RowKit
set_option linter.unusedVariables false
def immM (op : Int) : Bool := op == 21 || op == 26
def instM (d : InstD) : List Int := [d.op, d.w] ++ (if immM d.op = true then [d.imm] else []) ++ listN (opsD d)
def phiM (p : PhiD) : List Int := p.w :: listN p.ins
def phisM (l : List PhiD) : List Int := (l.length : Int) :: l.flatMap phiM
def instsM (l : List InstD) : List Int := (l.length : Int) :: l.flatMap instM
def termNs (t : TermD) : List Int := if t.kind = 1 then [t.a] else if t.kind = 2 then [t.x] else if t.kind = 3 then [t.a, t.x, t.y] else []
def termM (t : TermD) : List Int := t.kind :: termNs t
def blockM (b : BlockD) : List Int := phisM b.phis ++ instsM b.insts ++ termM b.term
def fheadM (f : FuncD) : List Int := f.ret :: (listN f.params ++ [(f.blocks.length : Int)])
def funcM (f : FuncD) : List Int := fheadM f ++ f.blocks.flatMap blockM
def modM (l : List FuncD) : List Int := (l.length : Int) :: l.flatMap funcM
def ssa1 : ByteArray := ⟨#[83, 83, 65, 49]⟩
theorem take_snocG {α : Type} {l : List α} {z : α} {k : Nat} (h : k < l.length) : l.take (k + 1) = l.take k ++ [l.getD k z] := by
 rw [List.take_succ_eq_append_getElem h]; simp [List.getD, h]
theorem flat_snoc {α : Type} {l : List α} {z : α} {k : Nat} (g : α → List Int) (h : k < l.length) : (l.take (k + 1)).flatMap g = (l.take k).flatMap g ++ g (l.getD k z) := by
 rw [take_snocG (z := z) h, List.flatMap_append]; simp
theorem flat_le {α : Type} (l : List α) (g : α → List Int) (k : Nat) : ((l.take k).flatMap g).length ≤ (l.flatMap g).length := by
 have := List.take_append_drop k l
 rw [← this, List.flatMap_append, List.length_append, this]
 omega
theorem flat_all {α : Type} (l : List α) (g : α → List Int) {k : Nat} (h : ¬ k < l.length) : (l.take k).flatMap g = l.flatMap g := by
 rw [List.take_of_length_le (by omega)]
theorem flat_bound {α : Type} (g : α → List Int) (n : Nat) : ∀ l : List α, (∀ x ∈ l, (g x).length ≤ n) → (l.flatMap g).length ≤ n * l.length
 | [], _ => by simp
 | x :: l, h => by
  have h1 := h x (by simp)
  have h2 := flat_bound g n l (fun y hy => h y (by simp [hy]))
  rw [List.flatMap_cons, List.length_append, List.length_cons]
  rw [Nat.mul_add]; omega
theorem ops_len4 {d : InstD} {ids funcs : Int} (h : instB d ids funcs = true) : (opsD d).length ≤ 4 := by
 simp only [instB, Bool.and_eq_true] at h
 obtain ⟨⟨⟨hw, hi⟩, hf⟩, ho⟩ := h
 have ha : d.op = 26 → d.args.length ≤ 4 := fun e => by
  rw [fB, if_pos e] at hf
  simp at hf
  omega
 unfold opsD
 split
 ·simp
 ·split
  ·simp
  ·split
   ·simp
   ·split
    ·rename_i h; exact ha h
    ·simp
theorem instM_len {d : InstD} {ids funcs : Int} (h : instB d ids funcs = true) : (instM d).length ≤ 12 := by
 have := ops_len4 h
 unfold instM listN
 split <;> simp <;> omega
theorem phiM_len {p : PhiD} {ids : Int} (h : phiB ids p = true) : (phiM p).length ≤ 12 := by
 simp [phiB] at h
 simp [phiM, listN]; omega
theorem termM_len (t : TermD) : (termM t).length ≤ 4 := by
 unfold termM termNs
 split
 ·simp
 ·split
  ·simp
  ·split <;> simp
theorem blockM_len {b : BlockD} {ids blocks funcs : Int} (h : blockB ids blocks funcs b = true) : (blockM b).length ≤ 6 + 12 * cntB b := by
 simp only [blockB, Bool.and_eq_true] at h
 have h1 := flat_bound phiM 12 b.phis (fun x hx => phiM_len (List.all_eq_true.1 h.1.1 x hx))
 have h2 := flat_bound instM 12 b.insts (fun x hx => instM_len (List.all_eq_true.1 h.1.2 x hx))
 have h3 := termM_len b.term
 unfold blockM phisM instsM cntB
 simp only [List.length_append, List.length_cons]
 rw [Nat.mul_add]; omega
theorem blocksM_len {ids blocks funcs : Int} : ∀ l : List BlockD, l.all (blockB ids blocks funcs) = true → (l.flatMap blockM).length ≤ 6 * l.length + 12 * cntL l
 | [], _ => by simp
 | b :: l, h => by
  simp only [List.all_cons, Bool.and_eq_true] at h
  have h1 := blockM_len h.1
  have h2 := blocksM_len l h.2
  have h3 : cntL (b :: l) = cntB b + cntL l := by simp [cntL]
  rw [List.flatMap_cons, List.length_append, List.length_cons, h3, Nat.mul_add, Nat.mul_add]; omega
theorem funcB_parts {d : FuncD} {funcs : Int} (h : funcB funcs d = true) : d.params.length ≤ 4 ∧ d.blocks.length ≤ 10 ∧ cntF d ≤ 60 ∧ d.blocks.all (blockB (cntF d) d.blocks.length funcs) = true := by
 simp only [funcB, Bool.and_eq_true, decide_eq_true_eq] at h
 obtain ⟨⟨⟨⟨⟨⟨h1, _⟩, _⟩, _⟩, h5⟩, h6⟩, h7⟩ := h
 exact ⟨h1, h5, h6, h7⟩
theorem funcM_len {d : FuncD} {funcs : Int} (h : funcB funcs d = true) : (funcM d).length ≤ 800 := by
 obtain ⟨h1, h2, h3, h4⟩ := funcB_parts h
 have h5 := blocksM_len d.blocks h4
 have h6 : cntL d.blocks ≤ 60 := by unfold cntF at h3; omega
 unfold funcM fheadM listN
 simp only [List.length_append, List.length_cons, List.length_nil]
 omega
theorem modB_parts {l : List FuncD} (h : modB l = true) : l.length ≤ 3 ∧ ∀ d ∈ l, funcB l.length d = true := by
 simp only [modB, Bool.and_eq_true, decide_eq_true_eq] at h
 exact ⟨h.1.2, fun d hd => List.all_eq_true.1 h.2 d hd⟩
theorem modM_len {l : List FuncD} (h : modB l = true) : (modM l).length ≤ 2500 := by
 obtain ⟨h1, h2⟩ := modB_parts h
 have := flat_bound funcM 800 l (fun d hd => funcM_len (h2 d hd))
 unfold modM
 rw [List.length_cons]; omega
end Go.Proofs.YtojhakjkfkmklaaGreatDoor
namespace Go.Proofs.YtojhakjkfkmklaaGreatDoor
open Go.RowKit
set_option linter.unusedVariables false
set_option linter.unusedSimpArgs false
theorem str_neq {a b : ByteArray} (h : ¬ a = b) : (a.toList == b.toList) = false := by
 rw [ByteArray.toList_eq, ByteArray.toList_eq, beq_eq_false_iff_ne]
 exact fun e => h (ByteArray.ext (Array.toList_inj.1 e))
theorem str_eqq {a b : ByteArray} (h : a = b) : (a.toList == b.toList) = true := by
 subst h
 exact beq_self_eq_true _
theorem hasY (s h : ByteArray) (w : World) (hh : h.size ≤ 1000) (hs : s.size ≤ 1048576) (h1 : h.size ≤ s.size) (h2 : s.extract 0 h.size = h) :
  Calls Tryz.prog 140 #[.string s, .string h] w fun e w' => e = .returned (.bool true) ∧ w' = w := by
 have E := str_eqq h2
 have hI : (h.size : Int) ≤ (s.size : Int) := by omega
 clear h2
 go_enter Tryz.func140, Tryz.ntmps140
 go_wp2_with fail
 go_ret
 exact ⟨rfl, rfl⟩
theorem hasN (s h : ByteArray) (w : World) (hh : h.size ≤ 1000) (hs : s.size ≤ 1048576) (h1 : ¬ (h.size ≤ s.size ∧ s.extract 0 h.size = h)) :
  Calls Tryz.prog 140 #[.string s, .string h] w fun e w' => e = .returned (.bool false) ∧ w' = w := by
 by_cases h2 : h.size ≤ s.size
 ·have E := str_neq (fun e => h1 ⟨h2, e⟩)
  have hI : (h.size : Int) ≤ (s.size : Int) := by omega
  clear h1
  go_enter Tryz.func140, Tryz.ntmps140
  go_wp2_with fail
  go_ret
  exact ⟨rfl, rfl⟩
 ·have hI : ¬ (h.size : Int) ≤ (s.size : Int) := by omega
  clear h1
  go_enter Tryz.func140, Tryz.ntmps140
  go_wp2_with fail
  go_ret
  exact ⟨rfl, rfl⟩
theorem cutPY (s h : ByteArray) (w : World) (hh : h.size ≤ 1000) (hs : s.size ≤ 1048576) (h1 : h.size ≤ s.size) (h2 : s.extract 0 h.size = h) :
  Calls Tryz.prog 86 #[.string s, .string h] w fun e w' => e = .returned (.tuple #[.string (s.extract h.size s.size), .bool true]) ∧ w' = w := by
 have P := hasY s h w hh hs h1 h2
 have hI : (h.size : Int) ≤ (s.size : Int) := by omega
 clear h2
 have Q : Calls Tryz.prog 119 #[.string s, .string h] w fun e w' => e = .returned (.tuple #[.string (s.extract h.size s.size), .bool true]) ∧ w' = w := by
  go_enter Tryz.func119, Tryz.ntmps119
  go_wp2_with fail
  refine P.mono ?_
  rintro e w1 ⟨rfl, h9⟩
  have h8 := h9.symm
  clear h9
  subst h8
  go_wp2_with fail
  go_ret2
  exact ⟨rfl, rfl⟩
 go_enter Tryz.func86, Tryz.ntmps86
 go_wp2_with fail
 refine Q.mono ?_
 rintro e w1 ⟨rfl, h9⟩
 have h8 := h9.symm
 clear h9
 subst h8
 go_wp2_with fail
 go_ret2
 exact ⟨rfl, rfl⟩
theorem cutPN (s h : ByteArray) (w : World) (hh : h.size ≤ 1000) (hs : s.size ≤ 1048576) (h1 : ¬ (h.size ≤ s.size ∧ s.extract 0 h.size = h)) :
  Calls Tryz.prog 86 #[.string s, .string h] w fun e w' => e = .returned (.tuple #[.string s, .bool false]) ∧ w' = w := by
 have P := hasN s h w hh hs h1
 clear h1
 have Q : Calls Tryz.prog 119 #[.string s, .string h] w fun e w' => e = .returned (.tuple #[.string s, .bool false]) ∧ w' = w := by
  go_enter Tryz.func119, Tryz.ntmps119
  go_wp2_with fail
  refine P.mono ?_
  rintro e w1 ⟨rfl, h9⟩
  have h8 := h9.symm
  clear h9
  subst h8
  go_wp2_with fail
  go_ret2
  exact ⟨rfl, rfl⟩
 go_enter Tryz.func86, Tryz.ntmps86
 go_wp2_with fail
 refine Q.mono ?_
 rintro e w1 ⟨rfl, h9⟩
 have h8 := h9.symm
 clear h9
 subst h8
 go_wp2_with fail
 go_ret2
 exact ⟨rfl, rfl⟩
end Go.Proofs.YtojhakjkfkmklaaGreatDoor
