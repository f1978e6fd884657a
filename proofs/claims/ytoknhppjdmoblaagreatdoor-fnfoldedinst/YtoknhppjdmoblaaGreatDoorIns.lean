import Derived.Test.YtoknhppjdmoblaaGreatDoorItyQ
import Derived.Laws.ResultCell
import Derived.Deep.DeepCutAuto
import Derived.BigRegion
import Derived.Deep.RegionHeld2
import Derived.Laws.Rows
namespace Go.Proofs.YtoknhppjdmoblaaGreatDoor
set_option linter.unusedVariables false
set_option linter.unusedSimpArgs false
open Go.RowKit
def instF (d : FuncD) (id : Int) : Option InstD :=
 if (placeF d id).1 < 0 then none else if (placeF d id).2 < (d.blocks.getD (placeF d id).1.toNat block0).phis.length then none
 else some ((d.blocks.getD (placeF d id).1.toNat block0).insts.getD ((placeF d id).2 - (d.blocks.getD (placeF d id).1.toNat block0).phis.length).toNat inst0)
def constF (d : FuncD) (id : Int) : Option Int := match instF d id with
 | none => none
 | some y => if y.op = 21 then some y.imm else none
def InstTold (w : World) (lo : Nat) : Option InstD → Ending → Prop
 | none, e => e = .returned (.tuple #[.agg #[.int .i64 0, .int .i64 0, .int .i64 0, .int .i64 0, .int .i64 0, .int .i64 0, .slice none 0 0], .bool false])
 | some y, e => ∃ ua qa, e = .returned (.tuple #[.agg #[.int .i64 y.op, .int .i64 y.w, .int .i64 y.a, .int .i64 y.b, .int .i64 y.c, .int .i64 y.imm, .slice ua y.args.length qa], .bool true]) ∧ IntsAt w lo ua y.args
def ConstTold : Option Int → Ending → Prop
 | none, e => e = .returned (.tuple #[.int .i64 0, .bool false])
 | some v, e => e = .returned (.tuple #[.int .i64 v, .bool true])
theorem results_cell_row_tmp {P : Program} {fn : Func} {p u : Tmp} {ty : TypeId} (h : fn.results = #[.cell p ty, .tmp u]) (tmps : Array Value) (w : World) (g : Nat) (cs : Array Value)
  (hp : tmps.getD p undef = .pointer (some ⟨g, 0, none⟩)) (hl : (loadVar ty ⟨g, 0, none⟩).run P w = .ok (.agg cs) w) :
  (results fn tmps).run P w = .ok (.tuple #[.agg cs, tmps.getD u undef]) w := by
 have hp' : tmps[p]?.getD undef = .pointer (some ⟨g, 0, none⟩) := by simpa using hp
 rw [results_cell_tmp h]
 simp [hp', asAddr, hl, Result.andThen]
theorem cell_offI {w : World} {g o h p : Nat} {v : Value} {x : Option Value} (hn : h < g) (hx : w.cell? ⟨h, p, none⟩ = x) : (w.setCell ⟨g, o, none⟩ v).cell? ⟨h, p, none⟩ = x := (cell_block (Below.heap_setCell _ _ _ _ (by show h ≠ g; omega))).trans hx
theorem drew_cell (w : World) (a : Addr) : w.drew.cell? a = w.cell? a := rfl
theorem drew_heap (w : World) (i : Nat) : w.drew.heap[i]? = w.heap[i]? := rfl
theorem keep7 {B : Nat} {w w1 : World} {v0 v1 v2 v3 v4 v5 v6 : Value} (h : ∀ b o, b < B → w.cell? ⟨b, o, none⟩ = w1.cell? ⟨b, o, none⟩) :
  ∀ b o, b < B → (((((((w.setCell ⟨B, 0, none⟩ v0).setCell ⟨B, 1, none⟩ v1).setCell ⟨B, 2, none⟩ v2).setCell ⟨B, 3, none⟩ v3).setCell ⟨B, 4, none⟩ v4).setCell ⟨B, 5, none⟩ v5).setCell ⟨B, 6, none⟩ v6).drew.cell? ⟨b, o, none⟩ = w1.cell? ⟨b, o, none⟩ := fun b o hb =>
 (drew_cell _ _).trans (cell_offI hb (cell_offI hb (cell_offI hb (cell_offI hb (cell_offI hb (cell_offI hb (cell_offI hb (h b o hb))))))))
theorem box_second {w w1 : World} {o p : Obj} (h : Below ((w.alloc o).alloc p).heap.size ((w.alloc o).alloc p) w1) : Below (w.alloc o).heap.size (w.alloc o) w1 :=
 ((Below.refl (w.alloc o).heap.size (w.alloc o)).alloc (Nat.le_refl _) p).trans (h.mono (by simp))
set_option maxHeartbeats 4000000 in
theorem instS_at_none (lo : Nat) (d : FuncD) (u0 : Option Addr) (c0 : Nat) (u2 : Option Addr) (c2 : Nat) (id : Int) (w : World) (hs : SmFunc d) (k2 : BlocksAt w lo u2 d.blocks) (hi : id ≤ 9223372036854775807) (v z : Int) (hv : v = -2 ∨ v = -1) (h : placeF d id = (v, z)) :
  Calls Tryz.prog 35 #[.agg #[.slice u0 d.params.length c0, .int .i64 d.ret, .slice u2 d.blocks.length c2], .int .i64 id] w fun e w' => InstTold w lo (instF d id) e ∧ Below w.heap.size w w' := by
 have E : Hid (instF d id = none) := by show _ = _; rw [instF, h, if_pos (by show v < 0; omega)]
 have q1 : (placeF d id).1 = v := by rw [h]
 clear h
 go_enter Tryz.func35, Tryz.ntmps35
 go_wp2_with fail
 refine (placeS_any lo d _ _ _ _ _ _ hs (k2.keep ((agree_alloc _ _ _).trans (agree_alloc _ _ _))) hi).mono ?_
 rintro e w1 ⟨rfl, hb1⟩
 have hx1 := box_first (box_second hb1)
 obtain ⟨p1, p2, p3⟩ := box3 hx1
 have hW := below_box hx1
 have hcc := bcell hb1
 have hff := bfroz hb1
 have hr0 : w1.heap[w.heap.size + 1]? = _ := (hb1.block (w.heap.size + 1) (by simp)).trans (heap_alloc2_new _ _ _)
 have HW : Hid (Below w.heap.size w w1) := hW
 clear hW hx1
 rcases hv with rfl | rfl
 all_goals
  go_wp2_with fail
  have hr := heap_set (o := 6) (v := .slice none 0 0) (heap_set (o := 5) (v := .int .i64 0) (heap_set (o := 4) (v := .int .i64 0) (heap_set (o := 3) (v := .int .i64 0) (heap_set (o := 2) (v := .int .i64 0) (heap_set (o := 1) (v := .int .i64 0) (heap_set (o := 0) (v := .int .i64 0) hr0))))))
  refine bodyPost_ret (v := .tuple #[.agg #[.int .i64 0, .int .i64 0, .int .i64 0, .int .i64 0, .int .i64 0, .int .i64 0, .slice none 0 0], .bool false]) ((results_cell_row_tmp Tryz.results35 _ _ (w.heap.size + 1) _ rfl (run_loadVar_row _ _ 29 _ _ (0, 0) _ hr Tryz.underlying29 rfl (by kernel_rfl))).trans (by rfl)) rfl ⟨by rw [E.out]; rfl, ?_⟩
  exact (by repeat (first | refine Below.setCell ?_ (by dsimp only; omega) _ | exact HW.out))
set_option maxHeartbeats 4000000 in
theorem instS_at_phi (lo : Nat) (d : FuncD) (u0 : Option Addr) (c0 : Nat) (u2 : Option Addr) (c2 : Nat) (id : Int) (w : World) (hs : SmFunc d) (k2 : BlocksAt w lo u2 d.blocks) (hi : id ≤ 9223372036854775807) (k j : Nat) (hk : k < d.blocks.length) (hj : j < (d.blocks.getD k block0).phis.length) (h : placeF d id = ((k : Int), (j : Int))) :
  Calls Tryz.prog 35 #[.agg #[.slice u0 d.params.length c0, .int .i64 d.ret, .slice u2 d.blocks.length c2], .int .i64 id] w fun e w' => InstTold w lo (instF d id) e ∧ Below w.heap.size w w' := by
 have E : Hid (instF d id = none) := by
  show _ = _
  rw [instF, h, if_neg (by show ¬ ((k : Int) < 0); omega), if_pos (by show (j : Int) < _; simpa using hj)]
 have q1 : (placeF d id).1 = (k : Int) := by rw [h]
 have q2 : (placeF d id).2 = (j : Int) := by rw [h]
 clear h
 go_enter Tryz.func35, Tryz.ntmps35
 go_wp2_with fail
 refine (placeS_any lo d _ _ _ _ _ _ hs (k2.keep ((agree_alloc _ _ _).trans (agree_alloc _ _ _))) hi).mono ?_
 rintro e w1 ⟨rfl, hb1⟩
 have hx1 := box_first (box_second hb1)
 obtain ⟨p1, p2, p3⟩ := box3 hx1
 have hW := below_box hx1
 have hcc := bcell hb1
 have hff := bfroz hb1
 have hr0 : w1.heap[w.heap.size + 1]? = _ := (hb1.block (w.heap.size + 1) (by simp)).trans (heap_alloc2_new _ _ _)
 rcases k2.2 with hn | ⟨b, off, rfl, hlo, hb, hcell⟩
 ·simp [hn] at hk
 obtain ⟨⟨v0, r0, g0, n0⟩, ⟨v1, r1, g1, n1⟩, g2, g3, g4, g5⟩ := hcell k hk
 have hsm := hs.2.2 _ (getD_mem block0 d.blocks k hk)
 generalize d.blocks.getD k block0 = x at *
 have e0 : w1.cell? ⟨b, off + k * 6, none⟩ = some (.slice v0 x.phis.length r0) := (cell_block (hW.block b hb)).trans g0
 have e1 : w1.cell? ⟨b, off + k * 6 + 1, none⟩ = some (.slice v1 x.insts.length r1) := (cell_block (hW.block b hb)).trans g1
 have s0 := hsm.1.1
 have s1 := hsm.2.1
 have hbl := hs.2.1
 have HW : Hid (Below w.heap.size w w1) := hW
 clear hW hx1 hcell g0 g1 g2 g3 g4 g5 n0 n1 hsm k2
 go_wp2_with fail
 have hr := heap_set (o := 6) (v := .slice none 0 0) (heap_set (o := 5) (v := .int .i64 0) (heap_set (o := 4) (v := .int .i64 0) (heap_set (o := 3) (v := .int .i64 0) (heap_set (o := 2) (v := .int .i64 0) (heap_set (o := 1) (v := .int .i64 0) (heap_set (o := 0) (v := .int .i64 0) hr0))))))
 refine bodyPost_ret (v := .tuple #[.agg #[.int .i64 0, .int .i64 0, .int .i64 0, .int .i64 0, .int .i64 0, .int .i64 0, .slice none 0 0], .bool false]) ((results_cell_row_tmp Tryz.results35 _ _ (w.heap.size + 1) _ rfl (run_loadVar_row _ _ 29 _ _ (0, 0) _ hr Tryz.underlying29 rfl (by kernel_rfl))).trans (by rfl)) rfl ⟨by rw [E.out]; rfl, ?_⟩
 exact (by repeat (first | refine Below.setCell ?_ (by dsimp only; omega) _ | exact HW.out))
set_option maxHeartbeats 4000000 in
theorem instS_at_inst (lo : Nat) (d : FuncD) (u0 : Option Addr) (c0 : Nat) (u2 : Option Addr) (c2 : Nat) (id : Int) (w : World) (hs : SmFunc d) (k2 : BlocksAt w lo u2 d.blocks) (hi : id ≤ 9223372036854775807) (k j : Nat) (hk : k < d.blocks.length) (hj : j < (d.blocks.getD k block0).insts.length) (h : placeF d id = ((k : Int), (((d.blocks.getD k block0).phis.length + j : Nat) : Int))) :
  Calls Tryz.prog 35 #[.agg #[.slice u0 d.params.length c0, .int .i64 d.ret, .slice u2 d.blocks.length c2], .int .i64 id] w fun e w' => InstTold w lo (instF d id) e ∧ Below w.heap.size w w' := by
 have E : Hid (instF d id = some ((d.blocks.getD k block0).insts.getD j inst0)) := by
  show _ = _
  have a4 : ((((d.blocks.getD k block0).phis.length + j : Nat) : Int) - (d.blocks.getD k block0).phis.length).toNat = j := by omega
  have a3 : ¬ ((((d.blocks.getD k block0).phis.length + j : Nat) : Int) < (d.blocks.getD k block0).phis.length) := by omega
  have a1 : ¬ ((k : Int) < 0) := by omega
  simp only [instF, h, if_neg a1, Int.toNat_natCast, if_neg a3, a4]
 have q1 : (placeF d id).1 = (k : Int) := by rw [h]
 have q2 : (placeF d id).2 = ((d.blocks.getD k block0).phis.length : Int) + (j : Int) := by rw [h]; simp
 clear h
 go_enter Tryz.func35, Tryz.ntmps35
 go_wp2_with fail
 refine (placeS_any lo d _ _ _ _ _ _ hs (k2.keep ((agree_alloc _ _ _).trans (agree_alloc _ _ _))) hi).mono ?_
 rintro e w1 ⟨rfl, hb1⟩
 have hx1 := box_first (box_second hb1)
 obtain ⟨p1, p2, p3⟩ := box3 hx1
 have hW := below_box hx1
 have hcc := bcell hb1
 have hff := bfroz hb1
 have hr0 : w1.heap[w.heap.size + 1]? = _ := (hb1.block (w.heap.size + 1) (by simp)).trans (heap_alloc2_new _ _ _)
 rcases k2.2 with hn | ⟨b, off, rfl, hlo, hb, hcell⟩
 ·simp [hn] at hk
 obtain ⟨⟨v0, r0, g0, n0⟩, ⟨v1, r1, g1, n1⟩, g2, g3, g4, g5⟩ := hcell k hk
 have hsm := hs.2.2 _ (getD_mem block0 d.blocks k hk)
 generalize d.blocks.getD k block0 = x at *
 have e0 : w1.cell? ⟨b, off + k * 6, none⟩ = some (.slice v0 x.phis.length r0) := (cell_block (hW.block b hb)).trans g0
 have e1 : w1.cell? ⟨b, off + k * 6 + 1, none⟩ = some (.slice v1 x.insts.length r1) := (cell_block (hW.block b hb)).trans g1
 have s0 := hsm.1.1
 have s1 := hsm.2.1
 have hbl := hs.2.1
 have HW : Hid (Below w.heap.size w w1) := hW
 rcases n1.2 with hn | ⟨bp, op, rfl, hlp, hbp, hcp⟩
 ·simp [hn] at hj
 obtain ⟨i0, i1, i2, i3, i4, i5, ⟨ua, qa, i6, ia⟩⟩ := hcp j hj
 generalize x.insts.getD j inst0 = y at *
 have f0 : w1.cell? ⟨bp, op + j * 7, none⟩ = some (.int .i64 y.op) := (cell_block (hW.block bp hbp)).trans i0
 have f1 : w1.cell? ⟨bp, op + j * 7 + 1, none⟩ = some (.int .i64 y.w) := (cell_block (hW.block bp hbp)).trans i1
 have f2 : w1.cell? ⟨bp, op + j * 7 + 2, none⟩ = some (.int .i64 y.a) := (cell_block (hW.block bp hbp)).trans i2
 have f3 : w1.cell? ⟨bp, op + j * 7 + 3, none⟩ = some (.int .i64 y.b) := (cell_block (hW.block bp hbp)).trans i3
 have f4 : w1.cell? ⟨bp, op + j * 7 + 4, none⟩ = some (.int .i64 y.c) := (cell_block (hW.block bp hbp)).trans i4
 have f5 : w1.cell? ⟨bp, op + j * 7 + 5, none⟩ = some (.int .i64 y.imm) := (cell_block (hW.block bp hbp)).trans i5
 have f6 : w1.cell? ⟨bp, op + j * 7 + 6, none⟩ = some (.slice ua y.args.length qa) := (cell_block (hW.block bp hbp)).trans i6
 have z1 : bp < w1.heap.size := Nat.lt_of_lt_of_le hbp hW.size
 have IA : Hid (IntsAt w lo ua y.args) := ia
 clear hW hx1 hcell hcp g0 g1 g2 g3 g4 g5 n0 n1 hsm k2 i0 i1 i2 i3 i4 i5 i6 ia
 go_wp2_with fail
 have hr := heap_set (o := 6) (v := .slice ua y.args.length qa) (heap_set (o := 5) (v := .int .i64 y.imm) (heap_set (o := 4) (v := .int .i64 y.c) (heap_set (o := 3) (v := .int .i64 y.b) (heap_set (o := 2) (v := .int .i64 y.a) (heap_set (o := 1) (v := .int .i64 y.w) (heap_set (o := 0) (v := .int .i64 y.op) hr0))))))
 refine bodyPost_ret (v := .tuple #[.agg #[.int .i64 y.op, .int .i64 y.w, .int .i64 y.a, .int .i64 y.b, .int .i64 y.c, .int .i64 y.imm, .slice ua y.args.length qa], .bool true]) ((results_cell_row_tmp Tryz.results35 _ _ (w.heap.size + 1) _ rfl (run_loadVar_row _ _ 29 _ _ (0, 0) _ hr Tryz.underlying29 rfl (by kernel_rfl))).trans (by rfl)) rfl ⟨by rw [E.out]; exact ⟨ua, qa, rfl, IA.out⟩, ?_⟩
 exact (by repeat (first | refine Below.setCell ?_ (by dsimp only; omega) _ | exact HW.out))
theorem instS_at (lo : Nat) (d : FuncD) (u0 : Option Addr) (c0 : Nat) (u2 : Option Addr) (c2 : Nat) (id : Int) (w : World) (hs : SmFunc d) (k2 : BlocksAt w lo u2 d.blocks) (hi : id ≤ 9223372036854775807) :
  Calls Tryz.prog 35 #[.agg #[.slice u0 d.params.length c0, .int .i64 d.ret, .slice u2 d.blocks.length c2], .int .i64 id] w fun e w' => InstTold w lo (instF d id) e ∧ Below w.heap.size w w' := by
 rcases place_cases d id with h | ⟨j, hj, h⟩ | ⟨k, j, hk, hj, h⟩
 ·exact instS_at_none lo d u0 c0 u2 c2 id w hs k2 hi _ _ (.inl rfl) h
 ·exact instS_at_none lo d u0 c0 u2 c2 id w hs k2 hi _ _ (.inr rfl) h
 ·by_cases hp : j < (d.blocks.getD k block0).phis.length
  ·exact instS_at_phi lo d u0 c0 u2 c2 id w hs k2 hi k j hk hp h
  ·unfold cntB at hj
   refine instS_at_inst lo d u0 c0 u2 c2 id w hs k2 hi k (j - (d.blocks.getD k block0).phis.length) hk (by omega) ?_
   rw [h, show (d.blocks.getD k block0).phis.length + (j - (d.blocks.getD k block0).phis.length) = j by omega]
set_option maxHeartbeats 4000000 in
theorem instI_at_none (lo : Nat) (d : FuncD) (u0 : Option Addr) (c0 : Nat) (u2 : Option Addr) (c2 : Nat) (id : Int) (w : World) (hs : SmFunc d) (k2 : BlocksAt w lo u2 d.blocks) (hi : id ≤ 9223372036854775807) (v z : Int) (hv : v = -2 ∨ v = -1) (h : placeF d id = (v, z)) :
  Calls Tryz.prog 34 #[.agg #[.slice u0 d.params.length c0, .int .i64 d.ret, .slice u2 d.blocks.length c2], .int .i64 id] w fun e w' => InstTold w lo (instF d id) e ∧ Below w.heap.size w w' := by
 have E : Hid (instF d id = none) := by show _ = _; rw [instF, h, if_pos (by show v < 0; omega)]
 have q1 : (placeF d id).1 = v := by rw [h]
 clear h
 go_enter Tryz.func34, Tryz.ntmps34
 go_wp2_with fail
 refine (placeI_any lo d _ _ _ _ _ _ hs (k2.keep ((agree_alloc _ _ _).trans (agree_alloc _ _ _))) hi).mono ?_
 rintro e w1 ⟨rfl, hb1⟩
 have hx1 := box_first (box_second hb1)
 obtain ⟨p1, p2, p3⟩ := box3 hx1
 have hW := below_box hx1
 have hcc := bcell hb1
 have hff := bfroz hb1
 have hr0 : w1.heap[w.heap.size + 1]? = _ := (hb1.block (w.heap.size + 1) (by simp)).trans (heap_alloc2_new _ _ _)
 have HW : Hid (Below w.heap.size w w1) := hW
 clear hW hx1
 rcases hv with rfl | rfl
 all_goals
  go_wp2_with fail
  have hr := heap_set (o := 6) (v := .slice none 0 0) (heap_set (o := 5) (v := .int .i64 0) (heap_set (o := 4) (v := .int .i64 0) (heap_set (o := 3) (v := .int .i64 0) (heap_set (o := 2) (v := .int .i64 0) (heap_set (o := 1) (v := .int .i64 0) (heap_set (o := 0) (v := .int .i64 0) hr0))))))
  refine bodyPost_ret (v := .tuple #[.agg #[.int .i64 0, .int .i64 0, .int .i64 0, .int .i64 0, .int .i64 0, .int .i64 0, .slice none 0 0], .bool false]) ((results_cell_row_tmp Tryz.results34 _ _ (w.heap.size + 1) _ rfl (run_loadVar_row _ _ 29 _ _ (0, 0) _ hr Tryz.underlying29 rfl (by kernel_rfl))).trans (by rfl)) rfl ⟨by rw [E.out]; rfl, ?_⟩
  exact (by repeat (first | refine Below.setCell ?_ (by dsimp only; omega) _ | exact HW.out))
set_option maxHeartbeats 4000000 in
theorem instI_at_phi (lo : Nat) (d : FuncD) (u0 : Option Addr) (c0 : Nat) (u2 : Option Addr) (c2 : Nat) (id : Int) (w : World) (hs : SmFunc d) (k2 : BlocksAt w lo u2 d.blocks) (hi : id ≤ 9223372036854775807) (k j : Nat) (hk : k < d.blocks.length) (hj : j < (d.blocks.getD k block0).phis.length) (h : placeF d id = ((k : Int), (j : Int))) :
  Calls Tryz.prog 34 #[.agg #[.slice u0 d.params.length c0, .int .i64 d.ret, .slice u2 d.blocks.length c2], .int .i64 id] w fun e w' => InstTold w lo (instF d id) e ∧ Below w.heap.size w w' := by
 have E : Hid (instF d id = none) := by
  show _ = _
  rw [instF, h, if_neg (by show ¬ ((k : Int) < 0); omega), if_pos (by show (j : Int) < _; simpa using hj)]
 have q1 : (placeF d id).1 = (k : Int) := by rw [h]
 have q2 : (placeF d id).2 = (j : Int) := by rw [h]
 clear h
 go_enter Tryz.func34, Tryz.ntmps34
 go_wp2_with fail
 refine (placeI_any lo d _ _ _ _ _ _ hs (k2.keep ((agree_alloc _ _ _).trans (agree_alloc _ _ _))) hi).mono ?_
 rintro e w1 ⟨rfl, hb1⟩
 have hx1 := box_first (box_second hb1)
 obtain ⟨p1, p2, p3⟩ := box3 hx1
 have hW := below_box hx1
 have hcc := bcell hb1
 have hff := bfroz hb1
 have hr0 : w1.heap[w.heap.size + 1]? = _ := (hb1.block (w.heap.size + 1) (by simp)).trans (heap_alloc2_new _ _ _)
 rcases k2.2 with hn | ⟨b, off, rfl, hlo, hb, hcell⟩
 ·simp [hn] at hk
 obtain ⟨⟨v0, r0, g0, n0⟩, ⟨v1, r1, g1, n1⟩, g2, g3, g4, g5⟩ := hcell k hk
 have hsm := hs.2.2 _ (getD_mem block0 d.blocks k hk)
 generalize d.blocks.getD k block0 = x at *
 have e0 : w1.cell? ⟨b, off + k * 6, none⟩ = some (.slice v0 x.phis.length r0) := (cell_block (hW.block b hb)).trans g0
 have e1 : w1.cell? ⟨b, off + k * 6 + 1, none⟩ = some (.slice v1 x.insts.length r1) := (cell_block (hW.block b hb)).trans g1
 have s0 := hsm.1.1
 have s1 := hsm.2.1
 have hbl := hs.2.1
 have HW : Hid (Below w.heap.size w w1) := hW
 clear hW hx1 hcell g0 g1 g2 g3 g4 g5 n0 n1 hsm k2
 go_wp2_with fail
 have hr := heap_set (o := 6) (v := .slice none 0 0) (heap_set (o := 5) (v := .int .i64 0) (heap_set (o := 4) (v := .int .i64 0) (heap_set (o := 3) (v := .int .i64 0) (heap_set (o := 2) (v := .int .i64 0) (heap_set (o := 1) (v := .int .i64 0) (heap_set (o := 0) (v := .int .i64 0) hr0))))))
 refine bodyPost_ret (v := .tuple #[.agg #[.int .i64 0, .int .i64 0, .int .i64 0, .int .i64 0, .int .i64 0, .int .i64 0, .slice none 0 0], .bool false]) ((results_cell_row_tmp Tryz.results34 _ _ (w.heap.size + 1) _ rfl (run_loadVar_row _ _ 29 _ _ (0, 0) _ hr Tryz.underlying29 rfl (by kernel_rfl))).trans (by rfl)) rfl ⟨by rw [E.out]; rfl, ?_⟩
 exact (by repeat (first | refine Below.setCell ?_ (by dsimp only; omega) _ | exact HW.out))
set_option maxHeartbeats 4000000 in
theorem instI_at_inst (lo : Nat) (d : FuncD) (u0 : Option Addr) (c0 : Nat) (u2 : Option Addr) (c2 : Nat) (id : Int) (w : World) (hs : SmFunc d) (k2 : BlocksAt w lo u2 d.blocks) (hi : id ≤ 9223372036854775807) (k j : Nat) (hk : k < d.blocks.length) (hj : j < (d.blocks.getD k block0).insts.length) (h : placeF d id = ((k : Int), (((d.blocks.getD k block0).phis.length + j : Nat) : Int))) :
  Calls Tryz.prog 34 #[.agg #[.slice u0 d.params.length c0, .int .i64 d.ret, .slice u2 d.blocks.length c2], .int .i64 id] w fun e w' => InstTold w lo (instF d id) e ∧ Below w.heap.size w w' := by
 have E : Hid (instF d id = some ((d.blocks.getD k block0).insts.getD j inst0)) := by
  show _ = _
  have a4 : ((((d.blocks.getD k block0).phis.length + j : Nat) : Int) - (d.blocks.getD k block0).phis.length).toNat = j := by omega
  have a3 : ¬ ((((d.blocks.getD k block0).phis.length + j : Nat) : Int) < (d.blocks.getD k block0).phis.length) := by omega
  have a1 : ¬ ((k : Int) < 0) := by omega
  simp only [instF, h, if_neg a1, Int.toNat_natCast, if_neg a3, a4]
 have q1 : (placeF d id).1 = (k : Int) := by rw [h]
 have q2 : (placeF d id).2 = ((d.blocks.getD k block0).phis.length : Int) + (j : Int) := by rw [h]; simp
 clear h
 go_enter Tryz.func34, Tryz.ntmps34
 go_wp2_with fail
 refine (placeI_any lo d _ _ _ _ _ _ hs (k2.keep ((agree_alloc _ _ _).trans (agree_alloc _ _ _))) hi).mono ?_
 rintro e w1 ⟨rfl, hb1⟩
 have hx1 := box_first (box_second hb1)
 obtain ⟨p1, p2, p3⟩ := box3 hx1
 have hW := below_box hx1
 have hcc := bcell hb1
 have hff := bfroz hb1
 have hr0 : w1.heap[w.heap.size + 1]? = _ := (hb1.block (w.heap.size + 1) (by simp)).trans (heap_alloc2_new _ _ _)
 rcases k2.2 with hn | ⟨b, off, rfl, hlo, hb, hcell⟩
 ·simp [hn] at hk
 obtain ⟨⟨v0, r0, g0, n0⟩, ⟨v1, r1, g1, n1⟩, g2, g3, g4, g5⟩ := hcell k hk
 have hsm := hs.2.2 _ (getD_mem block0 d.blocks k hk)
 generalize d.blocks.getD k block0 = x at *
 have e0 : w1.cell? ⟨b, off + k * 6, none⟩ = some (.slice v0 x.phis.length r0) := (cell_block (hW.block b hb)).trans g0
 have e1 : w1.cell? ⟨b, off + k * 6 + 1, none⟩ = some (.slice v1 x.insts.length r1) := (cell_block (hW.block b hb)).trans g1
 have s0 := hsm.1.1
 have s1 := hsm.2.1
 have hbl := hs.2.1
 have HW : Hid (Below w.heap.size w w1) := hW
 rcases n1.2 with hn | ⟨bp, op, rfl, hlp, hbp, hcp⟩
 ·simp [hn] at hj
 obtain ⟨i0, i1, i2, i3, i4, i5, ⟨ua, qa, i6, ia⟩⟩ := hcp j hj
 generalize x.insts.getD j inst0 = y at *
 have f0 : w1.cell? ⟨bp, op + j * 7, none⟩ = some (.int .i64 y.op) := (cell_block (hW.block bp hbp)).trans i0
 have f1 : w1.cell? ⟨bp, op + j * 7 + 1, none⟩ = some (.int .i64 y.w) := (cell_block (hW.block bp hbp)).trans i1
 have f2 : w1.cell? ⟨bp, op + j * 7 + 2, none⟩ = some (.int .i64 y.a) := (cell_block (hW.block bp hbp)).trans i2
 have f3 : w1.cell? ⟨bp, op + j * 7 + 3, none⟩ = some (.int .i64 y.b) := (cell_block (hW.block bp hbp)).trans i3
 have f4 : w1.cell? ⟨bp, op + j * 7 + 4, none⟩ = some (.int .i64 y.c) := (cell_block (hW.block bp hbp)).trans i4
 have f5 : w1.cell? ⟨bp, op + j * 7 + 5, none⟩ = some (.int .i64 y.imm) := (cell_block (hW.block bp hbp)).trans i5
 have f6 : w1.cell? ⟨bp, op + j * 7 + 6, none⟩ = some (.slice ua y.args.length qa) := (cell_block (hW.block bp hbp)).trans i6
 have z1 : bp < w1.heap.size := Nat.lt_of_lt_of_le hbp hW.size
 have IA : Hid (IntsAt w lo ua y.args) := ia
 clear hW hx1 hcell hcp g0 g1 g2 g3 g4 g5 n0 n1 hsm k2 i0 i1 i2 i3 i4 i5 i6 ia
 have x1 : IntKind.i64.wrap ((x.phis.length : Int) + j - x.phis.length) = (j : Int) := by rw [IntKind.wrap_i64]; omega
 have x2 : IntKind.i64.wrap (j : Int) = (j : Int) := by rw [IntKind.wrap_i64]; omega
 have x3 : (x.phis.length : Int) + j - x.phis.length = (j : Int) := by omega
 have x4 : (0 : Int) ≤ (j : Int) := by omega
 have x5 : (j : Int) < (x.insts.length : Int) := by omega
 have x6 : (0 : Int) ≤ (k : Int) := by omega
 have x7 : (k : Int) < (d.blocks.length : Int) := by omega
 have b1 : ((k : Int) == -2) = false := by simp
 have b2 : ((k : Int) == -1) = false := by simp
 have b3 : ¬ ((x.phis.length : Int) + j < x.phis.length) := by omega
 go_wp2_with fail
 have S0 : ∀ b o, b < w.heap.size + 1 → w1.drew.cell? ⟨b, o, none⟩ = w1.cell? ⟨b, o, none⟩ := fun _ _ _ => rfl
 have Hb : b < w.heap.size + 1 := by omega
 have Hbp : bp < w.heap.size + 1 := by omega
 have m0 : w1.drew.cell? ⟨w.heap.size + 1, 0, none⟩ = some (.int .i64 0) := (cell_of_heap hr0).trans rfl
 have mr0 : w1.drew.frozen? ⟨w.heap.size + 1, 0, none⟩ = false := (hff (w.heap.size + 1) 0 (by simp)).trans (by simp)
 have M0 : w1.cell? ⟨w.heap.size + 1, 0, none⟩ = some (.int .i64 0) := (cell_of_heap hr0).trans rfl
 have Mr0 : w1.frozen? ⟨w.heap.size + 1, 0, none⟩ = false := (hff (w.heap.size + 1) 0 (by simp)).trans (by simp)
 have m1 : w1.drew.cell? ⟨w.heap.size + 1, 1, none⟩ = some (.int .i64 0) := (cell_of_heap hr0).trans rfl
 have mr1 : w1.drew.frozen? ⟨w.heap.size + 1, 1, none⟩ = false := (hff (w.heap.size + 1) 1 (by simp)).trans (by simp)
 have M1 : w1.cell? ⟨w.heap.size + 1, 1, none⟩ = some (.int .i64 0) := (cell_of_heap hr0).trans rfl
 have Mr1 : w1.frozen? ⟨w.heap.size + 1, 1, none⟩ = false := (hff (w.heap.size + 1) 1 (by simp)).trans (by simp)
 have m2 : w1.drew.cell? ⟨w.heap.size + 1, 2, none⟩ = some (.int .i64 0) := (cell_of_heap hr0).trans rfl
 have mr2 : w1.drew.frozen? ⟨w.heap.size + 1, 2, none⟩ = false := (hff (w.heap.size + 1) 2 (by simp)).trans (by simp)
 have M2 : w1.cell? ⟨w.heap.size + 1, 2, none⟩ = some (.int .i64 0) := (cell_of_heap hr0).trans rfl
 have Mr2 : w1.frozen? ⟨w.heap.size + 1, 2, none⟩ = false := (hff (w.heap.size + 1) 2 (by simp)).trans (by simp)
 have m3 : w1.drew.cell? ⟨w.heap.size + 1, 3, none⟩ = some (.int .i64 0) := (cell_of_heap hr0).trans rfl
 have mr3 : w1.drew.frozen? ⟨w.heap.size + 1, 3, none⟩ = false := (hff (w.heap.size + 1) 3 (by simp)).trans (by simp)
 have M3 : w1.cell? ⟨w.heap.size + 1, 3, none⟩ = some (.int .i64 0) := (cell_of_heap hr0).trans rfl
 have Mr3 : w1.frozen? ⟨w.heap.size + 1, 3, none⟩ = false := (hff (w.heap.size + 1) 3 (by simp)).trans (by simp)
 have m4 : w1.drew.cell? ⟨w.heap.size + 1, 4, none⟩ = some (.int .i64 0) := (cell_of_heap hr0).trans rfl
 have mr4 : w1.drew.frozen? ⟨w.heap.size + 1, 4, none⟩ = false := (hff (w.heap.size + 1) 4 (by simp)).trans (by simp)
 have M4 : w1.cell? ⟨w.heap.size + 1, 4, none⟩ = some (.int .i64 0) := (cell_of_heap hr0).trans rfl
 have Mr4 : w1.frozen? ⟨w.heap.size + 1, 4, none⟩ = false := (hff (w.heap.size + 1) 4 (by simp)).trans (by simp)
 have m5 : w1.drew.cell? ⟨w.heap.size + 1, 5, none⟩ = some (.int .i64 0) := (cell_of_heap hr0).trans rfl
 have mr5 : w1.drew.frozen? ⟨w.heap.size + 1, 5, none⟩ = false := (hff (w.heap.size + 1) 5 (by simp)).trans (by simp)
 have M5 : w1.cell? ⟨w.heap.size + 1, 5, none⟩ = some (.int .i64 0) := (cell_of_heap hr0).trans rfl
 have Mr5 : w1.frozen? ⟨w.heap.size + 1, 5, none⟩ = false := (hff (w.heap.size + 1) 5 (by simp)).trans (by simp)
 have m6 : w1.drew.cell? ⟨w.heap.size + 1, 6, none⟩ = some (.slice none 0 0) := (cell_of_heap hr0).trans rfl
 have mr6 : w1.drew.frozen? ⟨w.heap.size + 1, 6, none⟩ = false := (hff (w.heap.size + 1) 6 (by simp)).trans (by simp)
 have M6 : w1.cell? ⟨w.heap.size + 1, 6, none⟩ = some (.slice none 0 0) := (cell_of_heap hr0).trans rfl
 have Mr6 : w1.frozen? ⟨w.heap.size + 1, 6, none⟩ = false := (hff (w.heap.size + 1) 6 (by simp)).trans (by simp)
 clear hcc hff
 go_region_held2 (fun w2 => ∀ b o, b < w.heap.size + 1 → w2.cell? ⟨b, o, none⟩ = w1.cell? ⟨b, o, none⟩) (first | with_reducible exact S0 | with_reducible exact keep7 (fun _ _ _ => rfl)) (fail)
 all_goals
  go_wp2_with fail
  have hr := (drew_heap _ _).trans <| heap_set (o := 6) (v := .slice ua y.args.length qa) (heap_set (o := 5) (v := .int .i64 y.imm) (heap_set (o := 4) (v := .int .i64 y.c) (heap_set (o := 3) (v := .int .i64 y.b) (heap_set (o := 2) (v := .int .i64 y.a) (heap_set (o := 1) (v := .int .i64 y.w) (heap_set (o := 0) (v := .int .i64 y.op) hr0))))))
  refine bodyPost_ret (v := .tuple #[.agg #[.int .i64 y.op, .int .i64 y.w, .int .i64 y.a, .int .i64 y.b, .int .i64 y.c, .int .i64 y.imm, .slice ua y.args.length qa], .bool true]) ((results_cell_row_tmp Tryz.results34 _ _ (w.heap.size + 1) _ rfl (run_loadVar_row _ _ 29 _ _ (0, 0) _ hr Tryz.underlying29 rfl (by kernel_rfl))).trans (by rfl)) rfl ⟨by rw [E.out]; exact ⟨ua, qa, rfl, IA.out⟩, ?_⟩
  refine Below.drew ?_
  exact (by repeat (first | refine Below.setCell ?_ (by dsimp only; omega) _ | exact HW.out))
theorem instI_at (lo : Nat) (d : FuncD) (u0 : Option Addr) (c0 : Nat) (u2 : Option Addr) (c2 : Nat) (id : Int) (w : World) (hs : SmFunc d) (k2 : BlocksAt w lo u2 d.blocks) (hi : id ≤ 9223372036854775807) :
  Calls Tryz.prog 34 #[.agg #[.slice u0 d.params.length c0, .int .i64 d.ret, .slice u2 d.blocks.length c2], .int .i64 id] w fun e w' => InstTold w lo (instF d id) e ∧ Below w.heap.size w w' := by
 rcases place_cases d id with h | ⟨j, hj, h⟩ | ⟨k, j, hk, hj, h⟩
 ·exact instI_at_none lo d u0 c0 u2 c2 id w hs k2 hi _ _ (.inl rfl) h
 ·exact instI_at_none lo d u0 c0 u2 c2 id w hs k2 hi _ _ (.inr rfl) h
 ·by_cases hp : j < (d.blocks.getD k block0).phis.length
  ·exact instI_at_phi lo d u0 c0 u2 c2 id w hs k2 hi k j hk hp h
  ·unfold cntB at hj
   refine instI_at_inst lo d u0 c0 u2 c2 id w hs k2 hi k (j - (d.blocks.getD k block0).phis.length) hk (by omega) ?_
   rw [h, show (d.blocks.getD k block0).phis.length + (j - (d.blocks.getD k block0).phis.length) = j by omega]
set_option maxHeartbeats 4000000 in
theorem constS_any (lo : Nat) (d : FuncD) (u0 : Option Addr) (c0 : Nat) (u2 : Option Addr) (c2 : Nat) (id : Int) (w : World) (hs : SmFunc d) (k2 : BlocksAt w lo u2 d.blocks) (hi : id ≤ 9223372036854775807) :
  Calls Tryz.prog 10 #[.agg #[.slice u0 d.params.length c0, .int .i64 d.ret, .slice u2 d.blocks.length c2], .int .i64 id] w fun e w' => ConstTold (constF d id) e ∧ Below w.heap.size w w' := by
 go_enter Tryz.func10, Tryz.ntmps10
 go_wp2_with fail
 refine (instS_at lo d _ _ _ _ _ _ hs (k2.keep (agree_alloc _ _ _)) hi).mono ?_
 rintro e w1 ⟨he, hb1⟩
 have hx1 := box_first hb1
 have HW : Hid (Below w.heap.size w w1) := below_box hx1
 clear hx1 hb1 k2
 have E : Hid (constF d id = match instF d id with | none => none | some y => if y.op = 21 then some y.imm else none) := rfl
 generalize instF d id = oi at *
 cases oi with
 | none =>
  obtain rfl := he
  go_wp2_with fail
  go_ret2
  exact ⟨by rw [E.out]; rfl, by first | exact HW.out | exact HW.out.alloc HW.out.size _⟩
 | some y =>
  obtain ⟨ua, qa, rfl, _⟩ := he
  by_cases hop : y.op = 21
  ·have E2 : Hid (constF d id = some y.imm) := by show _ = _; rw [E.out]; exact if_pos hop
   clear E
   go_wp2_with fail
   go_ret2
   exact ⟨by rw [E2.out]; rfl, by first | exact HW.out | exact HW.out.alloc HW.out.size _⟩
  ·have E2 : Hid (constF d id = none) := by show _ = _; rw [E.out]; exact if_neg hop
   clear E
   go_wp2_with fail
   go_ret2
   exact ⟨by rw [E2.out]; rfl, by first | exact HW.out | exact HW.out.alloc HW.out.size _⟩
set_option maxHeartbeats 4000000 in
theorem constI_any (lo : Nat) (d : FuncD) (u0 : Option Addr) (c0 : Nat) (u2 : Option Addr) (c2 : Nat) (id : Int) (w : World) (hs : SmFunc d) (k2 : BlocksAt w lo u2 d.blocks) (hi : id ≤ 9223372036854775807) :
  Calls Tryz.prog 9 #[.agg #[.slice u0 d.params.length c0, .int .i64 d.ret, .slice u2 d.blocks.length c2], .int .i64 id] w fun e w' => ConstTold (constF d id) e ∧ Below w.heap.size w w' := by
 go_enter Tryz.func9, Tryz.ntmps9
 go_wp2_with fail
 refine (instI_at lo d _ _ _ _ _ _ hs (k2.keep (agree_alloc _ _ _)) hi).mono ?_
 rintro e w1 ⟨he, hb1⟩
 have hx1 := box_first hb1
 have HW : Hid (Below w.heap.size w w1) := below_box hx1
 clear hx1 hb1 k2
 have E : Hid (constF d id = match instF d id with | none => none | some y => if y.op = 21 then some y.imm else none) := rfl
 generalize instF d id = oi at *
 cases oi with
 | none =>
  obtain rfl := he
  go_wp2_with fail
  go_ret2
  exact ⟨by rw [E.out]; rfl, by first | exact HW.out | exact HW.out.alloc HW.out.size _⟩
 | some y =>
  obtain ⟨ua, qa, rfl, _⟩ := he
  by_cases hop : y.op = 21
  ·have E2 : Hid (constF d id = some y.imm) := by show _ = _; rw [E.out]; exact if_pos hop
   clear E
   go_wp2_with fail
   go_ret2
   exact ⟨by rw [E2.out]; rfl, by first | exact HW.out | exact HW.out.alloc HW.out.size _⟩
  ·have E2 : Hid (constF d id = none) := by show _ = _; rw [E.out]; exact if_neg hop
   clear E
   go_wp2_with fail
   go_ret2
   exact ⟨by rw [E2.out]; rfl, by first | exact HW.out | exact HW.out.alloc HW.out.size _⟩
end Go.Proofs.YtoknhppjdmoblaaGreatDoor
