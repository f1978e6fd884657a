import Derived.Test.YtojhakjkfkmklaaGreatDoorOwAV
import Derived.Deep.RegionWith
namespace Go.Proofs.YtojhakjkfkmklaaGreatDoor
open Go.RowKit
set_option linter.unusedVariables false
set_option linter.unusedSimpArgs false
structure Fit (L : List Int) : Prop where
 pos : Pos L
 len : L.length ≤ 20000
theorem pNext_yes {L L1 : List Int} {x : Int} (h : pNext L = some (x, L1)) : L = x :: L1 := by
 cases L with
 | nil => cases h
 | cons y r => cases h; rfl
theorem Fit.next {L L1 : List Int} {x : Int} (h : Fit L) (e : pNext L = some (x, L1)) : Fit L1 ∧ 0 ≤ x := by
 have e := pNext_yes e
 subst e
 exact ⟨⟨h.pos.tail, by have := h.len; simp at this; omega⟩, h.pos _ (List.mem_cons_self ..)⟩
theorem Fit.imm {L L1 : List Int} {op x : Int} (h : Fit L) (e : pImm op L = some (x, L1)) : Fit L1 := by
 have e := (pImm_yes e).1
 rw [e] at h
 exact ⟨h.pos.right, by have := h.len; rw [List.length_append] at this; omega⟩
theorem Fit.list {L L1 l : List Int} (h : Fit L) (e : pList L = some (l, L1)) : Fit L1 ∧ l.length ≤ 20000 := by
 have e := pList_yes h.pos e
 rw [e] at h
 have := h.len
 rw [List.length_append] at this
 unfold listN at this
 rw [List.length_cons] at this
 exact ⟨⟨h.pos.right, by omega⟩, by omega⟩
theorem pInst_eq (L : List Int) : pInst L = (pNext L).bind fun x => (pNext x.2).bind fun y => (pImm x.1 y.2).bind fun z => (pList z.2).bind fun l => if opsD (mkD x.1 y.1 z.1 l.1) = l.1 then some (mkD x.1 y.1 z.1 l.1, l.2) else none := by
 match L with
 | [] => rfl
 | [_] => rfl
 | op :: w :: r =>
  rw [pInst]
  simp only [pNext, Option.bind_some]
  cases pImm op r with
  | none => rfl
  | some a =>
   obtain ⟨im, r2⟩ := a
   dsimp only [Option.bind_some]
   cases pList r2 with
   | none => rfl
   | some b => rfl
def InstTook (w : World) (d : InstD) (e : Ending) (w' : World) : Prop := ∃ u c, e = .returned (.agg #[.int .i64 d.op, .int .i64 d.w, .int .i64 d.a, .int .i64 d.b, .int .i64 d.c, .int .i64 d.imm, .slice u d.args.length c]) ∧ OwnI w' w.heap.size w'.heap.size u d.args
set_option maxHeartbeats 2000000 in
theorem takeInstT (a : Addr) (B R : Nat) (L : List Int) (w : World) (h : RwIn B w R L) (hf : Fit L) (hv : Gv w 0 (errV a)) (hR : 0 ≠ R) (hBw : B ≤ w.heap.size) :
  Calls Tryz.prog 123 #[.pointer (some ⟨R, 0, none⟩)] w fun e w' => Took pInst a B R L w (fun d e w' => InstTook w d e w') e w' := by
 have PE : Hid (pInst L = _) := pInst_eq L
 have B0 : Below w.heap.size w (w.alloc (.cells #[.int .i64 0, .int .i64 0, .int .i64 0, .int .i64 0, .int .i64 0, .int .i64 0, .slice none 0 0] 91)) := (Below.refl _ _).alloc (Nat.le_refl _) _
 have hlt := h.lt
 have A0 : Hid (At (w.alloc (.cells #[.int .i64 0, .int .i64 0, .int .i64 0, .int .i64 0, .int .i64 0, .int .i64 0, .slice none 0 0] 91)) w.heap.size #[.int .i64 0, .int .i64 0, .int .i64 0, .int .i64 0, .int .i64 0, .int .i64 0, .slice none 0 0] 91) := At.new _ _ _
 have HO0 : Hid (OnlyR R w (w.alloc (.cells #[.int .i64 0, .int .i64 0, .int .i64 0, .int .i64 0, .int .i64 0, .int .i64 0, .slice none 0 0] 91))) := OnlyR.below B0
 have N1 := nextT a B R L _ (h.keep B0) hf.len (hv.keep B0)
 have HV : Hid (Gv (w.alloc (.cells #[.int .i64 0, .int .i64 0, .int .i64 0, .int .i64 0, .int .i64 0, .int .i64 0, .slice none 0 0] 91)) 0 (errV a)) := hv.keep B0
 have HF : Hid (Fit L) := hf
 clear h hv hf B0
 go_enter Tryz.func123, Tryz.ntmps123
 go_wp2_with fail
 refine N1.mono ?_
 rintro e w1 ⟨o1, ⟨op, L1, p1, rfl, r1⟩ | ⟨p1, rfl⟩⟩
 rotate_left
 ·have HN : Hid (pInst L = none) := by show _ = _; rw [PE.out, p1]; rfl
  clear p1 PE
  go_wp2_with fail
  exact ⟨rfl, HO0.out.trans o1, .inr ⟨HN.out, rfl⟩⟩
 have A1 : Hid (At w1 w.heap.size #[.int .i64 0, .int .i64 0, .int .i64 0, .int .i64 0, .int .i64 0, .int .i64 0, .slice none 0 0] 91) := (o1.block w.heap.size A0.out.lt (by omega)).trans A0.out
 have HO1 : Hid (OnlyR R w w1) := HO0.out.trans o1
 have HF1 : Hid (Fit L1) := (HF.out.next p1).1
 have e9 := PE.out
 rw [p1, Option.bind_some] at e9
 have PE1 : Hid (pInst L = _) := e9
 clear e9
 have HV1 : Hid (Gv w1 0 (errV a)) := HV.out.only o1 hR
 have N2 := nextT a B R L1 w1 r1 HF1.out.len HV1.out
 clear N1 r1 o1 p1 PE
 go_wp2_with fail
 refine N2.mono ?_
 rintro e w2 ⟨o2, ⟨wi, L2, p2, rfl, r2⟩ | ⟨p2, rfl⟩⟩
 rotate_left
 ·have HN : Hid (pInst L = none) := by show _ = _; rw [PE1.out, p2]; rfl
  clear p2 PE1
  go_wp2_with fail
  exact ⟨rfl, HO1.out.trans o2, .inr ⟨HN.out, rfl⟩⟩
 have A2 : Hid (At w2 w.heap.size #[.int .i64 0, .int .i64 0, .int .i64 0, .int .i64 0, .int .i64 0, .int .i64 0, .slice none 0 0] 91) := (o2.block w.heap.size A1.out.lt (by omega)).trans A1.out
 have HO2 : Hid (OnlyR R w w2) := HO1.out.trans o2
 have HF2 : Hid (Fit L2) := (HF1.out.next p2).1
 have e9 := PE1.out
 rw [p2, Option.bind_some] at e9
 have PE2 : Hid (pInst L = _) := e9
 clear e9
 have HV2 : Hid (Gv w2 0 (errV a)) := HV1.out.only o2 hR
 have N3 := immT a B R op L2 w2 r2 HF2.out.len HV2.out
 clear N2 r2 o2 p2 PE1
 go_wp2_with fail
 refine N3.mono ?_
 rintro e w3 ⟨o3, ⟨im, L3, p3, rfl, r3⟩ | ⟨p3, rfl⟩⟩
 rotate_left
 ·have HN : Hid (pInst L = none) := by show _ = _; rw [PE2.out, p3]; rfl
  clear p3 PE2
  go_wp2_with fail
  exact ⟨rfl, HO2.out.trans o3, .inr ⟨HN.out, rfl⟩⟩
 have A3 : Hid (At w3 w.heap.size #[.int .i64 0, .int .i64 0, .int .i64 0, .int .i64 0, .int .i64 0, .int .i64 0, .slice none 0 0] 91) := (o3.block w.heap.size A2.out.lt (by omega)).trans A2.out
 have HO3 : Hid (OnlyR R w w3) := HO2.out.trans o3
 have HF3 : Hid (Fit L3) := HF2.out.imm p3
 have e9 := PE2.out
 rw [p3, Option.bind_some] at e9
 have PE3 : Hid (pInst L = _) := e9
 clear e9
 have HV3 : Hid (Gv w3 0 (errV a)) := HV2.out.only o3 hR
 have N4 := listT a B R L3 w3 r3 HF3.out.pos HF3.out.len HV3.out hR
 clear N3 r3 o3 p3 PE2
 go_wp2_with fail
 refine N4.mono ?_
 rintro e w4 ⟨o4, ⟨l, L4, p4, ⟨u, c, rfl, hu⟩, r4⟩ | ⟨p4, rfl⟩⟩
 rotate_left
 ·have HN : Hid (pInst L = none) := by show _ = _; rw [PE3.out, p4]; rfl
  clear p4 PE3
  go_wp2_with fail
  exact ⟨rfl, HO3.out.trans o4, .inr ⟨HN.out, rfl⟩⟩
 have A4 : Hid (At w4 w.heap.size #[.int .i64 0, .int .i64 0, .int .i64 0, .int .i64 0, .int .i64 0, .int .i64 0, .slice none 0 0] 91) := (o4.block w.heap.size A3.out.lt (by omega)).trans A3.out
 have HO4 : Hid (OnlyR R w w4) := HO3.out.trans o4
 have e9 := PE3.out
 rw [p4, Option.bind_some] at e9
 have PE4 : Hid (pInst L = _) := e9
 clear e9
 have HV4 : Hid (Gv w4 0 (errV a)) := HV3.out.only o4 hR
 have HR4 : Hid (RwIn B w4 R L4) := r4
 have HZ4 : Hid (w.heap.size ≤ w3.heap.size) := HO3.out.size
 have IT := instT a op wi im _ _ u c l w4 HV4.out hu
 clear N4 r4 o4 p4 PE3 hu
 go_wp2_with fail
 refine IT.mono ?_
 rintro e w5 ⟨b5, ⟨hy, v, q, rfl, hu⟩ | ⟨hn, rfl⟩⟩
 ·have HN : Hid (pInst L = some (mkD op wi im l, L4)) := by
   show _ = _
   rw [PE4.out]
   rw [if_pos hy]
  have HU : Hid (OwnI w5 w.heap.size w5.heap.size v (mkD op wi im l).args) := hu.wide HZ4.out b5.size
  have HO5 : Hid (OnlyR R w w5) := HO4.out.trans (OnlyR.below b5)
  have HR5 : Hid (RwIn B w5 R L4) := HR4.out.keep b5
  have A5 : Hid (At w5 w.heap.size #[.int .i64 0, .int .i64 0, .int .i64 0, .int .i64 0, .int .i64 0, .int .i64 0, .slice none 0 0] 91) := A4.out.below b5
  clear hu hy IT PE4
  generalize mkD op wi im l = d at *
  have c0 : w5.cell? ⟨w.heap.size, 0, none⟩ = some (.int .i64 0) := A5.out.cell 0
  have c1 : w5.cell? ⟨w.heap.size, 1, none⟩ = some (.int .i64 0) := A5.out.cell 1
  have c2 : w5.cell? ⟨w.heap.size, 2, none⟩ = some (.int .i64 0) := A5.out.cell 2
  have c3 : w5.cell? ⟨w.heap.size, 3, none⟩ = some (.int .i64 0) := A5.out.cell 3
  have c4 : w5.cell? ⟨w.heap.size, 4, none⟩ = some (.int .i64 0) := A5.out.cell 4
  have c5 : w5.cell? ⟨w.heap.size, 5, none⟩ = some (.int .i64 0) := A5.out.cell 5
  have c6 : w5.cell? ⟨w.heap.size, 6, none⟩ = some (.slice none 0 0) := A5.out.cell 6
  have cf : ∀ o, w5.frozen? ⟨w.heap.size, o, none⟩ = false := fun o => froz_of_heap A5.out
  go_wp2_with fail
  have hr := (heap_set (o := 6) (v := .slice v d.args.length q) (heap_set (o := 5) (v := .int .i64 d.imm) (heap_set (o := 4) (v := .int .i64 d.c) (heap_set (o := 3) (v := .int .i64 d.b) (heap_set (o := 2) (v := .int .i64 d.a) (heap_set (o := 1) (v := .int .i64 d.w) (heap_set (o := 0) (v := .int .i64 d.op) A5.out)))))))
  have ST : Still 1 w5 (((((((w5.setCell ⟨w.heap.size, 0, none⟩ (.int .i64 d.op)).setCell ⟨w.heap.size, 1, none⟩ (.int .i64 d.w)).setCell ⟨w.heap.size, 2, none⟩ (.int .i64 d.a)).setCell ⟨w.heap.size, 3, none⟩ (.int .i64 d.b)).setCell ⟨w.heap.size, 4, none⟩ (.int .i64 d.c)).setCell ⟨w.heap.size, 5, none⟩ (.int .i64 d.imm)).setCell ⟨w.heap.size, 6, none⟩ (.slice v d.args.length q)) := (((((((Still.set (k := 1) (o := 0) (v := .int .i64 d.op) A5.out (by decide))).trans (Still.set (k := 1) (o := 1) (v := .int .i64 d.w) (heap_set (o := 0) (v := .int .i64 d.op) A5.out) (by decide))).trans (Still.set (k := 1) (o := 2) (v := .int .i64 d.a) (heap_set (o := 1) (v := .int .i64 d.w) (heap_set (o := 0) (v := .int .i64 d.op) A5.out)) (by decide))).trans (Still.set (k := 1) (o := 3) (v := .int .i64 d.b) (heap_set (o := 2) (v := .int .i64 d.a) (heap_set (o := 1) (v := .int .i64 d.w) (heap_set (o := 0) (v := .int .i64 d.op) A5.out))) (by decide))).trans (Still.set (k := 1) (o := 4) (v := .int .i64 d.c) (heap_set (o := 3) (v := .int .i64 d.b) (heap_set (o := 2) (v := .int .i64 d.a) (heap_set (o := 1) (v := .int .i64 d.w) (heap_set (o := 0) (v := .int .i64 d.op) A5.out)))) (by decide))).trans (Still.set (k := 1) (o := 5) (v := .int .i64 d.imm) (heap_set (o := 4) (v := .int .i64 d.c) (heap_set (o := 3) (v := .int .i64 d.b) (heap_set (o := 2) (v := .int .i64 d.a) (heap_set (o := 1) (v := .int .i64 d.w) (heap_set (o := 0) (v := .int .i64 d.op) A5.out))))) (by decide))).trans (Still.set (k := 1) (o := 6) (v := .slice v d.args.length q) (heap_set (o := 5) (v := .int .i64 d.imm) (heap_set (o := 4) (v := .int .i64 d.c) (heap_set (o := 3) (v := .int .i64 d.b) (heap_set (o := 2) (v := .int .i64 d.a) (heap_set (o := 1) (v := .int .i64 d.w) (heap_set (o := 0) (v := .int .i64 d.op) A5.out)))))) (by decide))
  have OO : OnlyR R w (((((((w5.setCell ⟨w.heap.size, 0, none⟩ (.int .i64 d.op)).setCell ⟨w.heap.size, 1, none⟩ (.int .i64 d.w)).setCell ⟨w.heap.size, 2, none⟩ (.int .i64 d.a)).setCell ⟨w.heap.size, 3, none⟩ (.int .i64 d.b)).setCell ⟨w.heap.size, 4, none⟩ (.int .i64 d.c)).setCell ⟨w.heap.size, 5, none⟩ (.int .i64 d.imm)).setCell ⟨w.heap.size, 6, none⟩ (.slice v d.args.length q)) := (OnlyR.fresh (OnlyR.fresh (OnlyR.fresh (OnlyR.fresh (OnlyR.fresh (OnlyR.fresh (OnlyR.fresh HO5.out (Nat.le_refl _)) (Nat.le_refl _)) (Nat.le_refl _)) (Nat.le_refl _)) (Nat.le_refl _)) (Nat.le_refl _)) (Nat.le_refl _))
  have RR : RwIn B (((((((w5.setCell ⟨w.heap.size, 0, none⟩ (.int .i64 d.op)).setCell ⟨w.heap.size, 1, none⟩ (.int .i64 d.w)).setCell ⟨w.heap.size, 2, none⟩ (.int .i64 d.a)).setCell ⟨w.heap.size, 3, none⟩ (.int .i64 d.b)).setCell ⟨w.heap.size, 4, none⟩ (.int .i64 d.c)).setCell ⟨w.heap.size, 5, none⟩ (.int .i64 d.imm)).setCell ⟨w.heap.size, 6, none⟩ (.slice v d.args.length q)) R L4 := (RwIn.set (RwIn.set (RwIn.set (RwIn.set (RwIn.set (RwIn.set (RwIn.set HR5.out hBw (by omega)) hBw (by omega)) hBw (by omega)) hBw (by omega)) hBw (by omega)) hBw (by omega)) hBw (by omega))
  have UU : OwnI (((((((w5.setCell ⟨w.heap.size, 0, none⟩ (.int .i64 d.op)).setCell ⟨w.heap.size, 1, none⟩ (.int .i64 d.w)).setCell ⟨w.heap.size, 2, none⟩ (.int .i64 d.a)).setCell ⟨w.heap.size, 3, none⟩ (.int .i64 d.b)).setCell ⟨w.heap.size, 4, none⟩ (.int .i64 d.c)).setCell ⟨w.heap.size, 5, none⟩ (.int .i64 d.imm)).setCell ⟨w.heap.size, 6, none⟩ (.slice v d.args.length q)) w.heap.size (((((((w5.setCell ⟨w.heap.size, 0, none⟩ (.int .i64 d.op)).setCell ⟨w.heap.size, 1, none⟩ (.int .i64 d.w)).setCell ⟨w.heap.size, 2, none⟩ (.int .i64 d.a)).setCell ⟨w.heap.size, 3, none⟩ (.int .i64 d.b)).setCell ⟨w.heap.size, 4, none⟩ (.int .i64 d.c)).setCell ⟨w.heap.size, 5, none⟩ (.int .i64 d.imm)).setCell ⟨w.heap.size, 6, none⟩ (.slice v d.args.length q)).heap.size v d.args := (HU.out.still ST (by decide)).wide (Nat.le_refl _) (by simp only [World.size_setCell]; exact Nat.le_refl _)
  exact bodyPost_ret (v := .agg #[.int .i64 d.op, .int .i64 d.w, .int .i64 d.a, .int .i64 d.b, .int .i64 d.c, .int .i64 d.imm, .slice v d.args.length q]) ((results_cell_row Tryz.results123 _ _ w.heap.size 91 _ (0, 0) _ rfl hr Tryz.underlying91 rfl (by kernel_rfl)).trans (by rfl)) rfl ⟨OO, .inl ⟨d, L4, HN.out, ⟨v, q, rfl, UU⟩, RR⟩⟩
 ·have HN : Hid (pInst L = none) := by
   show _ = _
   rw [PE4.out]
   rw [if_neg hn]
  have HO5 : Hid (OnlyR R w w5) := HO4.out.trans (OnlyR.below b5)
  clear hn IT PE4
  go_wp2_with fail
  exact ⟨rfl, HO5.out, .inr ⟨HN.out, rfl⟩⟩
end Go.Proofs.YtojhakjkfkmklaaGreatDoor
