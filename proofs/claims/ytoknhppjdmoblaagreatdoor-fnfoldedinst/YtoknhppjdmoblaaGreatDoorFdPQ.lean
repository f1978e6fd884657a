import Derived.Test.YtoknhppjdmoblaaGreatDoorFdMQ
import Derived.Test.YtoknhppjdmoblaaGreatDoorFmFQ
namespace Go.Proofs.YtoknhppjdmoblaaGreatDoor
set_option linter.unusedVariables false
set_option linter.unusedSimpArgs false
open Go.RowKit
def foldM (d : FuncD) (i : InstD) : InstD := if funcB 3 d = true ∧ instB i (cntF d) 3 = true then foldF d i else zeroI
set_option maxHeartbeats 4000000 in
set_option maxRecDepth 100000 in
theorem foldM_f (lo : Nat) (d : FuncD) (i : InstD) (u0 : Option Addr) (c0 : Nat) (u2 : Option Addr) (c2 : Nat) (ua : Option Addr) (qa : Nat) (w : World) (hs : SmFunc d) (k0 : IntsAt w lo u0 d.params) (k2 : BlocksAt w lo u2 d.blocks) (ku : IntsAt w lo ua i.args) (hm : i.args.length ≤ 1048576) (hf : funcB 3 d = false) :
  Calls Tryz.prog 12 #[.agg #[.slice u0 d.params.length c0, .int .i64 d.ret, .slice u2 d.blocks.length c2], .agg #[.int .i64 i.op, .int .i64 i.w, .int .i64 i.a, .int .i64 i.b, .int .i64 i.c, .int .i64 i.imm, .slice ua i.args.length qa]] w fun e w' => InstGot w' w.heap.size (foldM d i) e ∧ Below w.heap.size w w' := by
 have FI := fun W (k : Below w.heap.size w W) => funcShS lo d u0 c0 u2 c2 3 W hs (k0.keep (agree_of_below k lo)) (k2.keep (agree_of_below k lo)) (by omega) (by omega)
 rw [hf] at FI
 have HZ : Hid (foldM d i = zeroI) := by show _ = _; unfold foldM; rw [hf]; simp
 clear hs k0 k2 ku hm hf
 have S0 := Fld.start (d := d) (i := i) (u0 := u0) (u2 := u2) (ua := ua) (c0 := c0) (c2 := c2) (qa := qa) (w := w)
 go_enter Tryz.func12, Tryz.ntmps12
 go_wp2_with fail
 generalize (((w.alloc (.cells #[.slice u0 d.params.length c0, .int .i64 d.ret, .slice u2 d.blocks.length c2] 27)).alloc (.cells #[.int .i64 i.op, .int .i64 i.w, .int .i64 i.a, .int .i64 i.b, .int .i64 i.c, .int .i64 i.imm, .slice ua i.args.length qa] 29)).alloc (.cells #[.int .i64 0, .int .i64 0, .int .i64 0, .int .i64 0, .int .i64 0, .int .i64 0, .slice none 0 0] 29)) = w1 at S0 ⊢
 have r1 : Hid (Fld d i u0 c0 u2 c2 ua qa w w1) := S0
 clear S0
 replace r1 := r1.out
 refine wp_region_abv (fun v => Below w1.heap.size w1 v) (by kernel_rfl) (by kernel_rfl) (drew_below (Below.refl _ _)) ?_
 have hne : Nonempty (Abv (fun v => Below w1.heap.size w1 v)) := abv_ne (Below.refl _ _)
 have x0 := fun x : Abv (fun v => Below w1.heap.size w1 v) => (show x.v.cell? ⟨w.heap.size, 0, none⟩ = some (.slice u0 d.params.length c0) from (r1.keep x.ok).f.cell 0)
 have x1 := fun x : Abv (fun v => Below w1.heap.size w1 v) => (show x.v.cell? ⟨w.heap.size, 1, none⟩ = some (.int .i64 d.ret) from (r1.keep x.ok).f.cell 1)
 have x2 := fun x : Abv (fun v => Below w1.heap.size w1 v) => (show x.v.cell? ⟨w.heap.size, 2, none⟩ = some (.slice u2 d.blocks.length c2) from (r1.keep x.ok).f.cell 2)
 have y0 := fun x : Abv (fun v => Below w1.heap.size w1 v) => (show x.v.cell? ⟨w.heap.size + 1, 0, none⟩ = some (.int .i64 i.op) from (r1.keep x.ok).i.cell 0)
 have y1 := fun x : Abv (fun v => Below w1.heap.size w1 v) => (show x.v.cell? ⟨w.heap.size + 1, 1, none⟩ = some (.int .i64 i.w) from (r1.keep x.ok).i.cell 1)
 have y2 := fun x : Abv (fun v => Below w1.heap.size w1 v) => (show x.v.cell? ⟨w.heap.size + 1, 2, none⟩ = some (.int .i64 i.a) from (r1.keep x.ok).i.cell 2)
 have y3 := fun x : Abv (fun v => Below w1.heap.size w1 v) => (show x.v.cell? ⟨w.heap.size + 1, 3, none⟩ = some (.int .i64 i.b) from (r1.keep x.ok).i.cell 3)
 have y4 := fun x : Abv (fun v => Below w1.heap.size w1 v) => (show x.v.cell? ⟨w.heap.size + 1, 4, none⟩ = some (.int .i64 i.c) from (r1.keep x.ok).i.cell 4)
 have y5 := fun x : Abv (fun v => Below w1.heap.size w1 v) => (show x.v.cell? ⟨w.heap.size + 1, 5, none⟩ = some (.int .i64 i.imm) from (r1.keep x.ok).i.cell 5)
 have y6 := fun x : Abv (fun v => Below w1.heap.size w1 v) => (show x.v.cell? ⟨w.heap.size + 1, 6, none⟩ = some (.slice ua i.args.length qa) from (r1.keep x.ok).i.cell 6)
 --CUT1
 repeat (go_big_quiet_step ((first | (go_at_call 37; exact abv_call _ (FI _ (r1.keep (Abv.ok _)).below)) | fail)))
 --CUT2
 refine wpQuiet_nil ?_
 rintro w9 ⟨⟨w9, h9⟩, rfl⟩
 have r9 := r1.keep h9
 clear hne x0 x1 x2 y0 y1 y2 y3 y4 y5 y6
 have z0 : w9.cell? ⟨w.heap.size + 1 + 1, 0, none⟩ = some (.int .i64 0) := r9.r.cell 0
 have z1 : w9.cell? ⟨w.heap.size + 1 + 1, 1, none⟩ = some (.int .i64 0) := r9.r.cell 1
 have z2 : w9.cell? ⟨w.heap.size + 1 + 1, 2, none⟩ = some (.int .i64 0) := r9.r.cell 2
 have z3 : w9.cell? ⟨w.heap.size + 1 + 1, 3, none⟩ = some (.int .i64 0) := r9.r.cell 3
 have z4 : w9.cell? ⟨w.heap.size + 1 + 1, 4, none⟩ = some (.int .i64 0) := r9.r.cell 4
 have z5 : w9.cell? ⟨w.heap.size + 1 + 1, 5, none⟩ = some (.int .i64 0) := r9.r.cell 5
 have z6 : w9.cell? ⟨w.heap.size + 1 + 1, 6, none⟩ = some (.slice none 0 0) := r9.r.cell 6
 have zf : ∀ o, w9.frozen? ⟨w.heap.size + 1 + 1, o, none⟩ = false := fun o => froz_of_heap r9.r
 go_wp2_with fail
 --CUT3
 have hr := (heap_set (o := 6) (v := .slice none 0 0) (heap_set (o := 5) (v := .int .i64 0) (heap_set (o := 4) (v := .int .i64 0) (heap_set (o := 3) (v := .int .i64 0) (heap_set (o := 2) (v := .int .i64 0) (heap_set (o := 1) (v := .int .i64 0) (heap_set (o := 0) (v := .int .i64 0) r9.r)))))))
 refine bodyPost_ret (v := .agg #[.int .i64 0, .int .i64 0, .int .i64 0, .int .i64 0, .int .i64 0, .int .i64 0, .slice none 0 0]) ((results_cell_row Tryz.results12 _ _ (w.heap.size + 1 + 1) 29 _ (0, 0) _ rfl hr Tryz.underlying29 rfl (by kernel_rfl)).trans (by rfl)) rfl ⟨?_, ?_⟩
 ·rw [HZ.out]
  exact ⟨none, 0, rfl, ints_nil⟩
 ·exact (by repeat (first | refine Below.setCell ?_ (by dsimp only; omega) _ | exact r9.below))
set_option maxHeartbeats 4000000 in
set_option maxRecDepth 100000 in
theorem foldM_s (lo : Nat) (d : FuncD) (i : InstD) (u0 : Option Addr) (c0 : Nat) (u2 : Option Addr) (c2 : Nat) (ua : Option Addr) (qa : Nat) (w : World) (hs : SmFunc d) (k0 : IntsAt w lo u0 d.params) (k2 : BlocksAt w lo u2 d.blocks) (ku : IntsAt w lo ua i.args) (hm : i.args.length ≤ 1048576) (hc60 : cntF d ≤ 60) (hf : funcB 3 d = true) (hi : instB i (cntF d) 3 = false) :
  Calls Tryz.prog 12 #[.agg #[.slice u0 d.params.length c0, .int .i64 d.ret, .slice u2 d.blocks.length c2], .agg #[.int .i64 i.op, .int .i64 i.w, .int .i64 i.a, .int .i64 i.b, .int .i64 i.c, .int .i64 i.imm, .slice ua i.args.length qa]] w fun e w' => InstGot w' w.heap.size (foldM d i) e ∧ Below w.heap.size w w' := by
 have FI := fun W (k : Below w.heap.size w W) => funcShS lo d u0 c0 u2 c2 3 W hs (k0.keep (agree_of_below k lo)) (k2.keep (agree_of_below k lo)) (by omega) (by omega)
 have RI := fun W (k : Below w.heap.size w W) => countS_any lo d u0 c0 u2 c2 W hs (k2.keep (agree_of_below k lo))
 have SI := fun W (k : Below w.heap.size w W) => instShS lo i ua qa (cntF d) 3 W (by omega) (by omega) (by omega) (by omega) hm (ku.keep (agree_of_below k lo))
 rw [hf] at FI
 rw [hi] at SI
 have HZ : Hid (foldM d i = zeroI) := by show _ = _; unfold foldM; rw [hi]; simp
 clear hs k0 k2 ku hm hf hi hc60
 have S0 := Fld.start (d := d) (i := i) (u0 := u0) (u2 := u2) (ua := ua) (c0 := c0) (c2 := c2) (qa := qa) (w := w)
 go_enter Tryz.func12, Tryz.ntmps12
 go_wp2_with fail
 generalize (((w.alloc (.cells #[.slice u0 d.params.length c0, .int .i64 d.ret, .slice u2 d.blocks.length c2] 27)).alloc (.cells #[.int .i64 i.op, .int .i64 i.w, .int .i64 i.a, .int .i64 i.b, .int .i64 i.c, .int .i64 i.imm, .slice ua i.args.length qa] 29)).alloc (.cells #[.int .i64 0, .int .i64 0, .int .i64 0, .int .i64 0, .int .i64 0, .int .i64 0, .slice none 0 0] 29)) = w1 at S0 ⊢
 have r1 : Hid (Fld d i u0 c0 u2 c2 ua qa w w1) := S0
 clear S0
 replace r1 := r1.out
 refine wp_region_abv (fun v => Below w1.heap.size w1 v) (by kernel_rfl) (by kernel_rfl) (drew_below (Below.refl _ _)) ?_
 have hne : Nonempty (Abv (fun v => Below w1.heap.size w1 v)) := abv_ne (Below.refl _ _)
 have x0 := fun x : Abv (fun v => Below w1.heap.size w1 v) => (show x.v.cell? ⟨w.heap.size, 0, none⟩ = some (.slice u0 d.params.length c0) from (r1.keep x.ok).f.cell 0)
 have x1 := fun x : Abv (fun v => Below w1.heap.size w1 v) => (show x.v.cell? ⟨w.heap.size, 1, none⟩ = some (.int .i64 d.ret) from (r1.keep x.ok).f.cell 1)
 have x2 := fun x : Abv (fun v => Below w1.heap.size w1 v) => (show x.v.cell? ⟨w.heap.size, 2, none⟩ = some (.slice u2 d.blocks.length c2) from (r1.keep x.ok).f.cell 2)
 have y0 := fun x : Abv (fun v => Below w1.heap.size w1 v) => (show x.v.cell? ⟨w.heap.size + 1, 0, none⟩ = some (.int .i64 i.op) from (r1.keep x.ok).i.cell 0)
 have y1 := fun x : Abv (fun v => Below w1.heap.size w1 v) => (show x.v.cell? ⟨w.heap.size + 1, 1, none⟩ = some (.int .i64 i.w) from (r1.keep x.ok).i.cell 1)
 have y2 := fun x : Abv (fun v => Below w1.heap.size w1 v) => (show x.v.cell? ⟨w.heap.size + 1, 2, none⟩ = some (.int .i64 i.a) from (r1.keep x.ok).i.cell 2)
 have y3 := fun x : Abv (fun v => Below w1.heap.size w1 v) => (show x.v.cell? ⟨w.heap.size + 1, 3, none⟩ = some (.int .i64 i.b) from (r1.keep x.ok).i.cell 3)
 have y4 := fun x : Abv (fun v => Below w1.heap.size w1 v) => (show x.v.cell? ⟨w.heap.size + 1, 4, none⟩ = some (.int .i64 i.c) from (r1.keep x.ok).i.cell 4)
 have y5 := fun x : Abv (fun v => Below w1.heap.size w1 v) => (show x.v.cell? ⟨w.heap.size + 1, 5, none⟩ = some (.int .i64 i.imm) from (r1.keep x.ok).i.cell 5)
 have y6 := fun x : Abv (fun v => Below w1.heap.size w1 v) => (show x.v.cell? ⟨w.heap.size + 1, 6, none⟩ = some (.slice ua i.args.length qa) from (r1.keep x.ok).i.cell 6)
 --CUT1
 repeat (go_big_quiet_step ((first | (go_at_call 37; exact abv_call _ (FI _ (r1.keep (Abv.ok _)).below)) | (go_at_call 26; exact abv_call _ (RI _ (r1.keep (Abv.ok _)).below)) | (go_at_call 38; exact abv_call _ (SI _ (r1.keep (Abv.ok _)).below)) | fail)))
 --CUT2
 refine wpQuiet_nil ?_
 rintro w9 ⟨⟨w9, h9⟩, rfl⟩
 have r9 := r1.keep h9
 clear hne x0 x1 x2 y0 y1 y2 y3 y4 y5 y6
 have z0 : w9.cell? ⟨w.heap.size + 1 + 1, 0, none⟩ = some (.int .i64 0) := r9.r.cell 0
 have z1 : w9.cell? ⟨w.heap.size + 1 + 1, 1, none⟩ = some (.int .i64 0) := r9.r.cell 1
 have z2 : w9.cell? ⟨w.heap.size + 1 + 1, 2, none⟩ = some (.int .i64 0) := r9.r.cell 2
 have z3 : w9.cell? ⟨w.heap.size + 1 + 1, 3, none⟩ = some (.int .i64 0) := r9.r.cell 3
 have z4 : w9.cell? ⟨w.heap.size + 1 + 1, 4, none⟩ = some (.int .i64 0) := r9.r.cell 4
 have z5 : w9.cell? ⟨w.heap.size + 1 + 1, 5, none⟩ = some (.int .i64 0) := r9.r.cell 5
 have z6 : w9.cell? ⟨w.heap.size + 1 + 1, 6, none⟩ = some (.slice none 0 0) := r9.r.cell 6
 have zf : ∀ o, w9.frozen? ⟨w.heap.size + 1 + 1, o, none⟩ = false := fun o => froz_of_heap r9.r
 go_wp2_with fail
 --CUT3
 have hr := (heap_set (o := 6) (v := .slice none 0 0) (heap_set (o := 5) (v := .int .i64 0) (heap_set (o := 4) (v := .int .i64 0) (heap_set (o := 3) (v := .int .i64 0) (heap_set (o := 2) (v := .int .i64 0) (heap_set (o := 1) (v := .int .i64 0) (heap_set (o := 0) (v := .int .i64 0) r9.r)))))))
 refine bodyPost_ret (v := .agg #[.int .i64 0, .int .i64 0, .int .i64 0, .int .i64 0, .int .i64 0, .int .i64 0, .slice none 0 0]) ((results_cell_row Tryz.results12 _ _ (w.heap.size + 1 + 1) 29 _ (0, 0) _ rfl hr Tryz.underlying29 rfl (by kernel_rfl)).trans (by rfl)) rfl ⟨?_, ?_⟩
 ·rw [HZ.out]
  exact ⟨none, 0, rfl, ints_nil⟩
 ·exact (by repeat (first | refine Below.setCell ?_ (by dsimp only; omega) _ | exact r9.below))
set_option maxHeartbeats 4000000 in
set_option maxRecDepth 100000 in
theorem foldM_y (lo : Nat) (d : FuncD) (i : InstD) (u0 : Option Addr) (c0 : Nat) (u2 : Option Addr) (c2 : Nat) (ua : Option Addr) (qa : Nat) (w : World) (hs : SmFunc d) (k0 : IntsAt w lo u0 d.params) (k2 : BlocksAt w lo u2 d.blocks) (ku : IntsAt w lo ua i.args) (hm : i.args.length ≤ 1048576) (hc60 : cntF d ≤ 60) (hf : funcB 3 d = true) (hi : instB i (cntF d) 3 = true) (BF : ∀ W, Below w.heap.size w W → Calls Tryz.prog 39 #[.agg #[.slice u0 d.params.length c0, .int .i64 d.ret, .slice u2 d.blocks.length c2], .agg #[.int .i64 i.op, .int .i64 i.w, .int .i64 i.a, .int .i64 i.b, .int .i64 i.c, .int .i64 i.imm, .slice ua i.args.length qa]] W fun e w' => InstGot w' W.heap.size (foldF d i) e ∧ Below W.heap.size W w') :
  Calls Tryz.prog 12 #[.agg #[.slice u0 d.params.length c0, .int .i64 d.ret, .slice u2 d.blocks.length c2], .agg #[.int .i64 i.op, .int .i64 i.w, .int .i64 i.a, .int .i64 i.b, .int .i64 i.c, .int .i64 i.imm, .slice ua i.args.length qa]] w fun e w' => InstGot w' w.heap.size (foldM d i) e ∧ Below w.heap.size w w' := by
 have FI := fun W (k : Below w.heap.size w W) => funcShS lo d u0 c0 u2 c2 3 W hs (k0.keep (agree_of_below k lo)) (k2.keep (agree_of_below k lo)) (by omega) (by omega)
 have RI := fun W (k : Below w.heap.size w W) => countS_any lo d u0 c0 u2 c2 W hs (k2.keep (agree_of_below k lo))
 have SI := fun W (k : Below w.heap.size w W) => instShS lo i ua qa (cntF d) 3 W (by omega) (by omega) (by omega) (by omega) hm (ku.keep (agree_of_below k lo))
 rw [hf] at FI
 rw [hi] at SI
 have HZ : Hid (foldM d i = foldF d i) := by show _ = _; unfold foldM; rw [hi, hf]; simp
 clear hs k0 k2 ku hm hf hi hc60
 have S0 := Fld.start (d := d) (i := i) (u0 := u0) (u2 := u2) (ua := ua) (c0 := c0) (c2 := c2) (qa := qa) (w := w)
 go_enter Tryz.func12, Tryz.ntmps12
 go_wp2_with fail
 generalize (((w.alloc (.cells #[.slice u0 d.params.length c0, .int .i64 d.ret, .slice u2 d.blocks.length c2] 27)).alloc (.cells #[.int .i64 i.op, .int .i64 i.w, .int .i64 i.a, .int .i64 i.b, .int .i64 i.c, .int .i64 i.imm, .slice ua i.args.length qa] 29)).alloc (.cells #[.int .i64 0, .int .i64 0, .int .i64 0, .int .i64 0, .int .i64 0, .int .i64 0, .slice none 0 0] 29)) = w1 at S0 ⊢
 have r1 : Hid (Fld d i u0 c0 u2 c2 ua qa w w1) := S0
 clear S0
 replace r1 := r1.out
 refine wp_region_abv (fun v => Below w1.heap.size w1 v) (by kernel_rfl) (by kernel_rfl) (drew_below (Below.refl _ _)) ?_
 have hne : Nonempty (Abv (fun v => Below w1.heap.size w1 v)) := abv_ne (Below.refl _ _)
 have x0 := fun x : Abv (fun v => Below w1.heap.size w1 v) => (show x.v.cell? ⟨w.heap.size, 0, none⟩ = some (.slice u0 d.params.length c0) from (r1.keep x.ok).f.cell 0)
 have x1 := fun x : Abv (fun v => Below w1.heap.size w1 v) => (show x.v.cell? ⟨w.heap.size, 1, none⟩ = some (.int .i64 d.ret) from (r1.keep x.ok).f.cell 1)
 have x2 := fun x : Abv (fun v => Below w1.heap.size w1 v) => (show x.v.cell? ⟨w.heap.size, 2, none⟩ = some (.slice u2 d.blocks.length c2) from (r1.keep x.ok).f.cell 2)
 have y0 := fun x : Abv (fun v => Below w1.heap.size w1 v) => (show x.v.cell? ⟨w.heap.size + 1, 0, none⟩ = some (.int .i64 i.op) from (r1.keep x.ok).i.cell 0)
 have y1 := fun x : Abv (fun v => Below w1.heap.size w1 v) => (show x.v.cell? ⟨w.heap.size + 1, 1, none⟩ = some (.int .i64 i.w) from (r1.keep x.ok).i.cell 1)
 have y2 := fun x : Abv (fun v => Below w1.heap.size w1 v) => (show x.v.cell? ⟨w.heap.size + 1, 2, none⟩ = some (.int .i64 i.a) from (r1.keep x.ok).i.cell 2)
 have y3 := fun x : Abv (fun v => Below w1.heap.size w1 v) => (show x.v.cell? ⟨w.heap.size + 1, 3, none⟩ = some (.int .i64 i.b) from (r1.keep x.ok).i.cell 3)
 have y4 := fun x : Abv (fun v => Below w1.heap.size w1 v) => (show x.v.cell? ⟨w.heap.size + 1, 4, none⟩ = some (.int .i64 i.c) from (r1.keep x.ok).i.cell 4)
 have y5 := fun x : Abv (fun v => Below w1.heap.size w1 v) => (show x.v.cell? ⟨w.heap.size + 1, 5, none⟩ = some (.int .i64 i.imm) from (r1.keep x.ok).i.cell 5)
 have y6 := fun x : Abv (fun v => Below w1.heap.size w1 v) => (show x.v.cell? ⟨w.heap.size + 1, 6, none⟩ = some (.slice ua i.args.length qa) from (r1.keep x.ok).i.cell 6)
 --CUT1
 repeat (go_big_quiet_step ((first | (go_at_call 37; exact abv_call _ (FI _ (r1.keep (Abv.ok _)).below)) | (go_at_call 26; exact abv_call _ (RI _ (r1.keep (Abv.ok _)).below)) | (go_at_call 38; exact abv_call _ (SI _ (r1.keep (Abv.ok _)).below)) | fail)))
 --CUT2
 refine wpQuiet_nil ?_
 rintro w9 ⟨⟨w9, h9⟩, rfl⟩
 have r9 := r1.keep h9
 clear hne x0 x1 x2 y0 y1 y2 y3 y4 y5 y6
 have x0 : w9.cell? ⟨w.heap.size, 0, none⟩ = some (.slice u0 d.params.length c0) := r9.f.cell 0
 have x1 : w9.cell? ⟨w.heap.size, 1, none⟩ = some (.int .i64 d.ret) := r9.f.cell 1
 have x2 : w9.cell? ⟨w.heap.size, 2, none⟩ = some (.slice u2 d.blocks.length c2) := r9.f.cell 2
 have y0 : w9.cell? ⟨w.heap.size + 1, 0, none⟩ = some (.int .i64 i.op) := r9.i.cell 0
 have y1 : w9.cell? ⟨w.heap.size + 1, 1, none⟩ = some (.int .i64 i.w) := r9.i.cell 1
 have y2 : w9.cell? ⟨w.heap.size + 1, 2, none⟩ = some (.int .i64 i.a) := r9.i.cell 2
 have y3 : w9.cell? ⟨w.heap.size + 1, 3, none⟩ = some (.int .i64 i.b) := r9.i.cell 3
 have y4 : w9.cell? ⟨w.heap.size + 1, 4, none⟩ = some (.int .i64 i.c) := r9.i.cell 4
 have y5 : w9.cell? ⟨w.heap.size + 1, 5, none⟩ = some (.int .i64 i.imm) := r9.i.cell 5
 have y6 : w9.cell? ⟨w.heap.size + 1, 6, none⟩ = some (.slice ua i.args.length qa) := r9.i.cell 6
 have BY := BF w9 r9.below
 go_wp2_with fail
 refine BY.mono ?_
 rintro e w5 ⟨⟨su, sq, rfl, hrow⟩, b5⟩
 have R5 : Hid (Fld d i u0 c0 u2 c2 ua qa w w5) := r9.keep b5
 have HROW : Hid (IntsAt w5 w9.heap.size _ _) := hrow
 have hz9 : w.heap.size + 1 + 1 < w9.heap.size := r9.r.lt
 clear hrow x0 x1 x2 y0 y1 y2 y3 y4 y5 y6 b5
 generalize foldF d i = g at *
 have z0 : w5.cell? ⟨w.heap.size + 1 + 1, 0, none⟩ = some (.int .i64 0) := R5.out.r.cell 0
 have z1 : w5.cell? ⟨w.heap.size + 1 + 1, 1, none⟩ = some (.int .i64 0) := R5.out.r.cell 1
 have z2 : w5.cell? ⟨w.heap.size + 1 + 1, 2, none⟩ = some (.int .i64 0) := R5.out.r.cell 2
 have z3 : w5.cell? ⟨w.heap.size + 1 + 1, 3, none⟩ = some (.int .i64 0) := R5.out.r.cell 3
 have z4 : w5.cell? ⟨w.heap.size + 1 + 1, 4, none⟩ = some (.int .i64 0) := R5.out.r.cell 4
 have z5 : w5.cell? ⟨w.heap.size + 1 + 1, 5, none⟩ = some (.int .i64 0) := R5.out.r.cell 5
 have z6 : w5.cell? ⟨w.heap.size + 1 + 1, 6, none⟩ = some (.slice none 0 0) := R5.out.r.cell 6
 have zf : ∀ o, w5.frozen? ⟨w.heap.size + 1 + 1, o, none⟩ = false := fun o => froz_of_heap R5.out.r
 go_wp2_with fail
 --CUT3
 have hr := (heap_set (o := 6) (v := .slice su g.args.length sq) (heap_set (o := 5) (v := .int .i64 g.imm) (heap_set (o := 4) (v := .int .i64 g.c) (heap_set (o := 3) (v := .int .i64 g.b) (heap_set (o := 2) (v := .int .i64 g.a) (heap_set (o := 1) (v := .int .i64 g.w) (heap_set (o := 0) (v := .int .i64 g.op) R5.out.r)))))))
 refine bodyPost_ret (v := .agg #[.int .i64 g.op, .int .i64 g.w, .int .i64 g.a, .int .i64 g.b, .int .i64 g.c, .int .i64 g.imm, .slice su g.args.length sq]) ((results_cell_row Tryz.results12 _ _ (w.heap.size + 1 + 1) 29 _ (0, 0) _ rfl hr Tryz.underlying29 rfl (by kernel_rfl)).trans (by rfl)) rfl ⟨?_, ?_⟩
 ·rw [HZ.out]
  refine ⟨su, sq, rfl, ?_⟩
  exact (HROW.out.keep (by repeat (first | refine Agree.trans ?_ (agree_setCell _ _ _ _ _ (by omega)) | exact Agree.refl _ _))).low (by omega)
 ·exact (by repeat (first | refine Below.setCell ?_ (by dsimp only; omega) _ | exact R5.out.below))
end Go.Proofs.YtoknhppjdmoblaaGreatDoor
namespace Go.Proofs.YtoknhppjdmoblaaGreatDoor
set_option linter.unusedVariables false
set_option linter.unusedSimpArgs false
open Go.RowKit
theorem inSv (n lo hi : Int) (v : Bool) (w : World) (h : (decide (lo ≤ n) && decide (n ≤ hi)) = v) : Calls Tryz.prog 69 #[.int .i64 n, .int .i64 lo, .int .i64 hi] w fun e w' => e = .returned (.bool v) ∧ w' = w := by
 rw [← h]; exact inS n lo hi w
theorem isC_known {d : FuncD} {id x : Int} {b : Bool} (h : KnownC (constF d id) x b) (v : Int) : isC d id v = (b && x == v) := by
 unfold isC
 rcases h with ⟨h1, h2⟩ | ⟨h1, h2, h3⟩
 ·rw [h1, h2]; simp
 ·rw [h1, h2]; simp
theorem f_const {d : FuncD} {i : InstD} {x y : Int} (ho : opB i.op = true) (h1 : constF d i.a = some x) (h2 : constF d i.b = some y) (h3 : binC i.op i.w x y = 0) : constD (instW i) (binZ i.op i.w x y) = foldF d i := by
 unfold foldF; rw [if_pos ho, h1, h2]; simp only [if_pos h3]
theorem f_zero {d : FuncD} {i : InstD} {x y : Int} (ho : opB i.op = true) (h1 : constF d i.a = some x) (h2 : constF d i.b = some y) (h3 : ¬ binC i.op i.w x y = 0) : i = foldF d i := by
 unfold foldF; rw [if_pos ho, h1, h2]; simp only [if_neg h3]
theorem f_pick {d : FuncD} {i : InstD} {a b : Int} {x y NE : Bool} (ho : opB i.op = true) (h1 : KnownC (constF d i.a) a x) (h2 : KnownC (constF d i.b) b y) (hn : ¬ (x = true ∧ y = true)) (hE : (i.a != i.b) = NE) : pickD i (twoC i.op (y && (b == 0)) (x && (a == 0)) (y && (b == 1)) (x && (a == 1)) (!NE)) = foldF d i := by
 have e : decide (i.a = i.b) = !NE := by rw [← hE]; by_cases k : i.a = i.b <;> simp [k]
 unfold foldF
 rw [if_pos ho, ← isC_known h1, ← isC_known h1, ← isC_known h2, ← isC_known h2, e]
 rcases h1 with ⟨p1, p2⟩ | ⟨p1, p2, p3⟩
 ·rcases h2 with ⟨q1, q2⟩ | ⟨q1, q2, q3⟩
  ·exact absurd ⟨p1, q1⟩ hn
  ·rw [p2, q2]
 ·rw [p2]
theorem f_cast {d : FuncD} {i : InstD} {x : Int} (ho : opB i.op = false) (hc : i.op = 18 ∨ i.op = 19 ∨ i.op = 20) (h1 : constF d i.a = some x) (h3 : castB i.op (typeF d i.a) i.w x = true) : constD i.w (castZ i.op (typeF d i.a) i.w x) = foldF d i := by
 unfold foldF; rw [if_neg (by rw [ho]; decide), if_pos hc, h1]; simp only [if_pos h3]
theorem f_cast_no {d : FuncD} {i : InstD} {x : Int} (ho : opB i.op = false) (hc : i.op = 18 ∨ i.op = 19 ∨ i.op = 20) (h1 : constF d i.a = some x) (h3 : castB i.op (typeF d i.a) i.w x = false) : i = foldF d i := by
 unfold foldF; rw [if_neg (by rw [ho]; decide), if_pos hc, h1]; simp [h3]
theorem f_cast_un {d : FuncD} {i : InstD} (ho : opB i.op = false) (hc : i.op = 18 ∨ i.op = 19 ∨ i.op = 20) (h1 : constF d i.a = none) : i = foldF d i := by
 unfold foldF; rw [if_neg (by rw [ho]; decide), if_pos hc, h1]
theorem f_sel {d : FuncD} {i : InstD} (h22 : i.op = 22) : foldF d i = (if isC d i.a 1 = true ∨ i.b = i.c then copyD i.w i.b else if (constF d i.a).isSome = true then copyD i.w i.c else i) := by
 unfold foldF; rw [if_neg (by simp [opB]; omega), if_neg (by omega), if_pos h22]
theorem f_copy {d : FuncD} {i : InstD} (h27 : i.op = 27) : foldF d i = (match constF d i.a with
  | some v => if valueB i.w v = true then constD i.w v else i
  | none => i) := by
 unfold foldF; rw [if_neg (by simp [opB]; omega), if_neg (by omega), if_neg (by omega), if_pos h27]; rfl
theorem f_other {d : FuncD} {i : InstD} (ho : opB i.op = false) (hc : ¬ (i.op = 18 ∨ i.op = 19 ∨ i.op = 20)) (h22 : ¬ i.op = 22) (h27 : ¬ i.op = 27) : i = foldF d i := by
 unfold foldF; rw [if_neg (by rw [ho]; decide), if_neg hc, if_neg h22, if_neg h27]
theorem f_sel1 {d : FuncD} {i : InstD} (h22 : i.op = 22) (h : isC d i.a 1 = true ∨ i.b = i.c) : copyD i.w i.b = foldF d i := by rw [f_sel h22, if_pos h]
theorem f_sel2 {d : FuncD} {i : InstD} (h22 : i.op = 22) (h : ¬ (isC d i.a 1 = true ∨ i.b = i.c)) (h1 : (constF d i.a).isSome = true) : copyD i.w i.c = foldF d i := by rw [f_sel h22, if_neg h, if_pos h1]
theorem f_sel3 {d : FuncD} {i : InstD} (h22 : i.op = 22) (h : ¬ (isC d i.a 1 = true ∨ i.b = i.c)) (h1 : constF d i.a = none) : i = foldF d i := by rw [f_sel h22, if_neg h, h1]; rfl
theorem f_copy1 {d : FuncD} {i : InstD} {v : Int} (h27 : i.op = 27) (h1 : constF d i.a = some v) (h2 : valueB i.w v = true) : constD i.w v = foldF d i := by rw [f_copy h27, h1]; simp [h2]
theorem f_copy2 {d : FuncD} {i : InstD} {v : Int} (h27 : i.op = 27) (h1 : constF d i.a = some v) (h2 : valueB i.w v = false) : i = foldF d i := by rw [f_copy h27, h1]; simp [h2]
theorem f_copy3 {d : FuncD} {i : InstD} (h27 : i.op = 27) (h1 : constF d i.a = none) : i = foldF d i := by rw [f_copy h27, h1]
theorem below_same {P : Program} {f : FuncId} {args : Array Value} {w : World} {v : Value} (h : Calls P f args w fun e w' => e = .returned v ∧ w' = w) : Calls P f args w fun e w' => e = .returned v ∧ Below w.heap.size w w' :=
 h.mono fun _ w' ⟨he, hb⟩ => ⟨he, by rw [hb]; exact Below.refl _ _⟩
end Go.Proofs.YtoknhppjdmoblaaGreatDoor
namespace Go.Proofs.YtoknhppjdmoblaaGreatDoor
set_option linter.unusedVariables false
set_option linter.unusedSimpArgs false
open Go.RowKit
structure Tw (op : Int) (i : InstD) (ua : Option Addr) (qa : Nat) (w w1 : World) : Prop where
 i : At w1 w.heap.size #[.int .i64 op, .int .i64 i.w, .int .i64 i.a, .int .i64 i.b, .int .i64 i.c, .int .i64 i.imm, .slice ua i.args.length qa] 29
 r : At w1 (w.heap.size + 1) #[.int .i64 0, .int .i64 0, .int .i64 0, .int .i64 0, .int .i64 0, .int .i64 0, .slice none 0 0] 29
 below : Below w.heap.size w w1
theorem Tw.keep {op : Int} {i : InstD} {ua : Option Addr} {qa : Nat} {w w1 w2 : World} (h : Tw op i ua qa w w1) (k : Below w1.heap.size w1 w2) : Tw op i ua qa w w2 := ⟨h.i.below k, h.r.below k, h.below.trans (k.mono h.below.size)⟩
theorem Tw.start {op : Int} {i : InstD} {ua : Option Addr} {qa : Nat} {w : World} : Tw op i ua qa w ((w.alloc (.cells #[.int .i64 op, .int .i64 i.w, .int .i64 i.a, .int .i64 i.b, .int .i64 i.c, .int .i64 i.imm, .slice ua i.args.length qa] 29)).alloc (.cells #[.int .i64 0, .int .i64 0, .int .i64 0, .int .i64 0, .int .i64 0, .int .i64 0, .slice none 0 0] 29)) := by
 have e1 : (w.alloc (.cells #[.int .i64 op, .int .i64 i.w, .int .i64 i.a, .int .i64 i.b, .int .i64 i.c, .int .i64 i.imm, .slice ua i.args.length qa] 29)).heap.size = w.heap.size + 1 := by simp
 have h1 := heap_alloc_last w (.cells #[.int .i64 op, .int .i64 i.w, .int .i64 i.a, .int .i64 i.b, .int .i64 i.c, .int .i64 i.imm, .slice ua i.args.length qa] 29)
 have h2 := heap_alloc_last (w.alloc (.cells #[.int .i64 op, .int .i64 i.w, .int .i64 i.a, .int .i64 i.b, .int .i64 i.c, .int .i64 i.imm, .slice ua i.args.length qa] 29)) (.cells #[.int .i64 0, .int .i64 0, .int .i64 0, .int .i64 0, .int .i64 0, .int .i64 0, .slice none 0 0] 29)
 rw [e1] at h2
 exact ⟨(Below.heap_alloc _ _ _ (by rw [e1]; omega)).trans h1, h2, ((Below.refl _ _).alloc (Nat.le_refl _) _).alloc (by rw [e1]; omega) _⟩
theorem two_cases {x y B0 A0 B1 A1 : Bool} (hxy : ¬ (x = true ∧ y = true)) (nb : ¬ (B0 = true ∧ B1 = true)) (na : ¬ (A0 = true ∧ A1 = true)) :
  (x = false ∧ y = false) ∨ (x = false ∧ y = true ∧ B0 = true ∧ B1 = false) ∨ (x = false ∧ y = true ∧ B0 = false ∧ B1 = true) ∨ (x = false ∧ y = true ∧ B0 = false ∧ B1 = false) ∨ (x = true ∧ y = false ∧ A0 = true ∧ A1 = false) ∨ (x = true ∧ y = false ∧ A0 = false ∧ A1 = true) ∨ (x = true ∧ y = false ∧ A0 = false ∧ A1 = false) := by
 cases x <;> cases y <;> cases B0 <;> cases B1 <;> cases A0 <;> cases A1 <;> simp_all
end Go.Proofs.YtoknhppjdmoblaaGreatDoor
