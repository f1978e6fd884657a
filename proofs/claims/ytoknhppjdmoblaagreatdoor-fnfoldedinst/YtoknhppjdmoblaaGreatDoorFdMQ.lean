import Derived.Test.YtoknhppjdmoblaaGreatDoorAttQ
import Derived.Test.YtoknhppjdmoblaaGreatDoorFdAQ
namespace Go.Proofs.YtoknhppjdmoblaaGreatDoor
set_option linter.unusedVariables false
set_option linter.unusedSimpArgs false
open Go.RowKit
def zeroI : InstD := ⟨0, 0, 0, 0, 0, 0, []⟩
def foldI (d : FuncD) (i : InstD) : InstD := if funcB 3 d = true ∧ instB i (cntF d) 3 = true then foldP d i else zeroI
structure Fld (d : FuncD) (i : InstD) (u0 : Option Addr) (c0 : Nat) (u2 : Option Addr) (c2 : Nat) (ua : Option Addr) (qa : Nat) (w w1 : World) : Prop where
 f : At w1 w.heap.size #[.slice u0 d.params.length c0, .int .i64 d.ret, .slice u2 d.blocks.length c2] 27
 i : At w1 (w.heap.size + 1) #[.int .i64 i.op, .int .i64 i.w, .int .i64 i.a, .int .i64 i.b, .int .i64 i.c, .int .i64 i.imm, .slice ua i.args.length qa] 29
 r : At w1 (w.heap.size + 1 + 1) #[.int .i64 0, .int .i64 0, .int .i64 0, .int .i64 0, .int .i64 0, .int .i64 0, .slice none 0 0] 29
 below : Below w.heap.size w w1
theorem Fld.keep {d : FuncD} {i : InstD} {u0 u2 ua : Option Addr} {c0 c2 qa : Nat} {w w1 w2 : World} (h : Fld d i u0 c0 u2 c2 ua qa w w1) (k : Below w1.heap.size w1 w2) : Fld d i u0 c0 u2 c2 ua qa w w2 := ⟨h.f.below k, h.i.below k, h.r.below k, h.below.trans (k.mono h.below.size)⟩
theorem Fld.start {d : FuncD} {i : InstD} {u0 u2 ua : Option Addr} {c0 c2 qa : Nat} {w : World} : Fld d i u0 c0 u2 c2 ua qa w (((w.alloc (.cells #[.slice u0 d.params.length c0, .int .i64 d.ret, .slice u2 d.blocks.length c2] 27)).alloc (.cells #[.int .i64 i.op, .int .i64 i.w, .int .i64 i.a, .int .i64 i.b, .int .i64 i.c, .int .i64 i.imm, .slice ua i.args.length qa] 29)).alloc (.cells #[.int .i64 0, .int .i64 0, .int .i64 0, .int .i64 0, .int .i64 0, .int .i64 0, .slice none 0 0] 29)) := by
 have e1 : (w.alloc (.cells #[.slice u0 d.params.length c0, .int .i64 d.ret, .slice u2 d.blocks.length c2] 27)).heap.size = w.heap.size + 1 := by simp
 have e2 : ((w.alloc (.cells #[.slice u0 d.params.length c0, .int .i64 d.ret, .slice u2 d.blocks.length c2] 27)).alloc (.cells #[.int .i64 i.op, .int .i64 i.w, .int .i64 i.a, .int .i64 i.b, .int .i64 i.c, .int .i64 i.imm, .slice ua i.args.length qa] 29)).heap.size = w.heap.size + 1 + 1 := by simp
 have h1 := heap_alloc_last w (.cells #[.slice u0 d.params.length c0, .int .i64 d.ret, .slice u2 d.blocks.length c2] 27)
 have h2 := heap_alloc_last (w.alloc (.cells #[.slice u0 d.params.length c0, .int .i64 d.ret, .slice u2 d.blocks.length c2] 27)) (.cells #[.int .i64 i.op, .int .i64 i.w, .int .i64 i.a, .int .i64 i.b, .int .i64 i.c, .int .i64 i.imm, .slice ua i.args.length qa] 29)
 have h3 := heap_alloc_last ((w.alloc (.cells #[.slice u0 d.params.length c0, .int .i64 d.ret, .slice u2 d.blocks.length c2] 27)).alloc (.cells #[.int .i64 i.op, .int .i64 i.w, .int .i64 i.a, .int .i64 i.b, .int .i64 i.c, .int .i64 i.imm, .slice ua i.args.length qa] 29)) (.cells #[.int .i64 0, .int .i64 0, .int .i64 0, .int .i64 0, .int .i64 0, .int .i64 0, .slice none 0 0] 29)
 rw [e1] at h2
 rw [e2] at h3
 refine ⟨?_, ?_, h3, (((Below.refl _ _).alloc (Nat.le_refl _) _).alloc (by rw [e1]; omega) _).alloc (by rw [e2]; omega) _⟩
 ·exact (Below.heap_alloc _ _ _ (by rw [e2]; omega)).trans ((Below.heap_alloc _ _ _ (by rw [e1]; omega)).trans h1)
 ·exact (Below.heap_alloc _ _ _ (by rw [e2]; omega)).trans h2
set_option maxHeartbeats 4000000 in
set_option maxRecDepth 100000 in
theorem foldI_f (lo : Nat) (d : FuncD) (i : InstD) (u0 : Option Addr) (c0 : Nat) (u2 : Option Addr) (c2 : Nat) (ua : Option Addr) (qa : Nat) (w : World) (hs : SmFunc d) (k0 : IntsAt w lo u0 d.params) (k2 : BlocksAt w lo u2 d.blocks) (ku : IntsAt w lo ua i.args) (hm : i.args.length ≤ 1048576) (hf : funcB 3 d = false) :
  Calls Tryz.prog 7 #[.agg #[.slice u0 d.params.length c0, .int .i64 d.ret, .slice u2 d.blocks.length c2], .agg #[.int .i64 i.op, .int .i64 i.w, .int .i64 i.a, .int .i64 i.b, .int .i64 i.c, .int .i64 i.imm, .slice ua i.args.length qa]] w fun e w' => InstNew w' w.heap.size (foldI d i) e ∧ Below w.heap.size w w' := by
 have FI := fun W (k : Below w.heap.size w W) => inFormI lo d u0 c0 u2 c2 W hs (k0.keep (agree_of_below k lo)) (k2.keep (agree_of_below k lo))
 rw [hf] at FI
 have HZ : Hid (foldI d i = zeroI) := by show _ = _; unfold foldI; rw [hf]; simp
 clear hs k0 k2 ku hm hf
 have S0 := Fld.start (d := d) (i := i) (u0 := u0) (u2 := u2) (ua := ua) (c0 := c0) (c2 := c2) (qa := qa) (w := w)
 go_enter Tryz.func7, Tryz.ntmps7
 go_wp2_with fail
 generalize (((w.alloc (.cells #[.slice u0 d.params.length c0, .int .i64 d.ret, .slice u2 d.blocks.length c2] 27)).alloc (.cells #[.int .i64 i.op, .int .i64 i.w, .int .i64 i.a, .int .i64 i.b, .int .i64 i.c, .int .i64 i.imm, .slice ua i.args.length qa] 29)).alloc (.cells #[.int .i64 0, .int .i64 0, .int .i64 0, .int .i64 0, .int .i64 0, .int .i64 0, .slice none 0 0] 29)) = w1 at S0 ⊢
 have r1 : Hid (Fld d i u0 c0 u2 c2 ua qa w w1) := S0
 clear S0
 replace r1 := r1.out
 refine wp_region_abv (fun v => Below w1.heap.size w1 v) (by kernel_rfl) (by kernel_rfl) (drew_below (Below.refl _ _)) ?_
 have hne : Nonempty (Abv (fun v => Below w1.heap.size w1 v)) := abv_ne (Below.refl _ _)
 have x0 := fun x : Abv (fun v => Below w1.heap.size w1 v) => (show x.v.cell? ⟨w.heap.size, 0, none⟩ = some (.slice u0 d.params.length c0) from (r1.keep x.ok).f.cell 0)
 have x1 := fun x : Abv (fun v => Below w1.heap.size w1 v) => (show x.v.cell? ⟨w.heap.size, 1, none⟩ = some (.int .i64 d.ret) from (r1.keep x.ok).f.cell 1)
 have x2 := fun x : Abv (fun v => Below w1.heap.size w1 v) => (show x.v.cell? ⟨w.heap.size, 2, none⟩ = some (.slice u2 d.blocks.length c2) from (r1.keep x.ok).f.cell 2)
 have y0 := fun x : Abv (fun v => Below w1.heap.size w1 v) => (show x.v.cell? ⟨w.heap.size + 1, 0, none⟩ = some (.int .i64 i.op) from (r1.keep x.ok).i.cell 0)
 have y1 := fun x : Abv (fun v => Below w1.heap.size w1 v) => (show x.v.cell? ⟨w.heap.size + 1, 1, none⟩ = some (.int .i64 i.w) from (r1.keep x.ok).i.cell 1)
 have y2 := fun x : Abv (fun v => Below w1.heap.size w1 v) => (show x.v.cell? ⟨w.heap.size + 1, 2, none⟩ = some (.int .i64 i.a) from (r1.keep x.ok).i.cell 2)
 have y3 := fun x : Abv (fun v => Below w1.heap.size w1 v) => (show x.v.cell? ⟨w.heap.size + 1, 3, none⟩ = some (.int .i64 i.b) from (r1.keep x.ok).i.cell 3)
 have y4 := fun x : Abv (fun v => Below w1.heap.size w1 v) => (show x.v.cell? ⟨w.heap.size + 1, 4, none⟩ = some (.int .i64 i.c) from (r1.keep x.ok).i.cell 4)
 have y5 := fun x : Abv (fun v => Below w1.heap.size w1 v) => (show x.v.cell? ⟨w.heap.size + 1, 5, none⟩ = some (.int .i64 i.imm) from (r1.keep x.ok).i.cell 5)
 have y6 := fun x : Abv (fun v => Below w1.heap.size w1 v) => (show x.v.cell? ⟨w.heap.size + 1, 6, none⟩ = some (.slice ua i.args.length qa) from (r1.keep x.ok).i.cell 6)
 --CUT1
 repeat (go_big_quiet_step ((first | (go_at_call 29; exact abv_call _ (FI _ (r1.keep (Abv.ok _)).below)) | fail)))
 --CUT2
 refine wpQuiet_nil ?_
 rintro w9 ⟨⟨w9, h9⟩, rfl⟩
 have r9 := r1.keep h9
 clear hne x0 x1 x2 y0 y1 y2 y3 y4 y5 y6
 have z0 : w9.cell? ⟨w.heap.size + 1 + 1, 0, none⟩ = some (.int .i64 0) := r9.r.cell 0
 have z1 : w9.cell? ⟨w.heap.size + 1 + 1, 1, none⟩ = some (.int .i64 0) := r9.r.cell 1
 have z2 : w9.cell? ⟨w.heap.size + 1 + 1, 2, none⟩ = some (.int .i64 0) := r9.r.cell 2
 have z3 : w9.cell? ⟨w.heap.size + 1 + 1, 3, none⟩ = some (.int .i64 0) := r9.r.cell 3
 have z4 : w9.cell? ⟨w.heap.size + 1 + 1, 4, none⟩ = some (.int .i64 0) := r9.r.cell 4
 have z5 : w9.cell? ⟨w.heap.size + 1 + 1, 5, none⟩ = some (.int .i64 0) := r9.r.cell 5
 have z6 : w9.cell? ⟨w.heap.size + 1 + 1, 6, none⟩ = some (.slice none 0 0) := r9.r.cell 6
 have zf : ∀ o, w9.frozen? ⟨w.heap.size + 1 + 1, o, none⟩ = false := fun o => froz_of_heap r9.r
 go_wp2_with fail
 --CUT3
 have hr := (heap_set (o := 6) (v := .slice none 0 0) (heap_set (o := 5) (v := .int .i64 0) (heap_set (o := 4) (v := .int .i64 0) (heap_set (o := 3) (v := .int .i64 0) (heap_set (o := 2) (v := .int .i64 0) (heap_set (o := 1) (v := .int .i64 0) (heap_set (o := 0) (v := .int .i64 0) r9.r)))))))
 refine bodyPost_ret (v := .agg #[.int .i64 0, .int .i64 0, .int .i64 0, .int .i64 0, .int .i64 0, .int .i64 0, .slice none 0 0]) ((results_cell_row Tryz.results7 _ _ (w.heap.size + 1 + 1) 29 _ (0, 0) _ rfl hr Tryz.underlying29 rfl (by kernel_rfl)).trans (by rfl)) rfl ⟨?_, ?_⟩
 ·rw [HZ.out]
  exact ⟨none, 0, rfl, Row.nil _ _⟩
 ·exact (by repeat (first | refine Below.setCell ?_ (by dsimp only; omega) _ | exact r9.below))
set_option maxHeartbeats 4000000 in
set_option maxRecDepth 100000 in
theorem foldI_s (lo : Nat) (d : FuncD) (i : InstD) (u0 : Option Addr) (c0 : Nat) (u2 : Option Addr) (c2 : Nat) (ua : Option Addr) (qa : Nat) (w : World) (hs : SmFunc d) (k0 : IntsAt w lo u0 d.params) (k2 : BlocksAt w lo u2 d.blocks) (ku : IntsAt w lo ua i.args) (hm : i.args.length ≤ 1048576) (hf : funcB 3 d = true) (hi : instB i (cntF d) 3 = false) :
  Calls Tryz.prog 7 #[.agg #[.slice u0 d.params.length c0, .int .i64 d.ret, .slice u2 d.blocks.length c2], .agg #[.int .i64 i.op, .int .i64 i.w, .int .i64 i.a, .int .i64 i.b, .int .i64 i.c, .int .i64 i.imm, .slice ua i.args.length qa]] w fun e w' => InstNew w' w.heap.size (foldI d i) e ∧ Below w.heap.size w w' := by
 have FI := fun W (k : Below w.heap.size w W) => inFormI lo d u0 c0 u2 c2 W hs (k0.keep (agree_of_below k lo)) (k2.keep (agree_of_below k lo))
 have RI := fun W (k : Below w.heap.size w W) => roomI lo d u0 c0 u2 c2 W hs (k2.keep (agree_of_below k lo))
 have SI := fun W (k : Below w.heap.size w W) => instShI lo i ua qa (cntF d) d.blocks.length 3 W hm (ku.keep (agree_of_below k lo))
 rw [hf] at FI
 rw [hi] at SI
 have HZ : Hid (foldI d i = zeroI) := by show _ = _; unfold foldI; rw [hi]; simp
 clear hs k0 k2 ku hm hf hi
 have S0 := Fld.start (d := d) (i := i) (u0 := u0) (u2 := u2) (ua := ua) (c0 := c0) (c2 := c2) (qa := qa) (w := w)
 go_enter Tryz.func7, Tryz.ntmps7
 go_wp2_with fail
 generalize (((w.alloc (.cells #[.slice u0 d.params.length c0, .int .i64 d.ret, .slice u2 d.blocks.length c2] 27)).alloc (.cells #[.int .i64 i.op, .int .i64 i.w, .int .i64 i.a, .int .i64 i.b, .int .i64 i.c, .int .i64 i.imm, .slice ua i.args.length qa] 29)).alloc (.cells #[.int .i64 0, .int .i64 0, .int .i64 0, .int .i64 0, .int .i64 0, .int .i64 0, .slice none 0 0] 29)) = w1 at S0 ⊢
 have r1 : Hid (Fld d i u0 c0 u2 c2 ua qa w w1) := S0
 clear S0
 replace r1 := r1.out
 refine wp_region_abv (fun v => Below w1.heap.size w1 v) (by kernel_rfl) (by kernel_rfl) (drew_below (Below.refl _ _)) ?_
 have hne : Nonempty (Abv (fun v => Below w1.heap.size w1 v)) := abv_ne (Below.refl _ _)
 have x0 := fun x : Abv (fun v => Below w1.heap.size w1 v) => (show x.v.cell? ⟨w.heap.size, 0, none⟩ = some (.slice u0 d.params.length c0) from (r1.keep x.ok).f.cell 0)
 have x1 := fun x : Abv (fun v => Below w1.heap.size w1 v) => (show x.v.cell? ⟨w.heap.size, 1, none⟩ = some (.int .i64 d.ret) from (r1.keep x.ok).f.cell 1)
 have x2 := fun x : Abv (fun v => Below w1.heap.size w1 v) => (show x.v.cell? ⟨w.heap.size, 2, none⟩ = some (.slice u2 d.blocks.length c2) from (r1.keep x.ok).f.cell 2)
 have y0 := fun x : Abv (fun v => Below w1.heap.size w1 v) => (show x.v.cell? ⟨w.heap.size + 1, 0, none⟩ = some (.int .i64 i.op) from (r1.keep x.ok).i.cell 0)
 have y1 := fun x : Abv (fun v => Below w1.heap.size w1 v) => (show x.v.cell? ⟨w.heap.size + 1, 1, none⟩ = some (.int .i64 i.w) from (r1.keep x.ok).i.cell 1)
 have y2 := fun x : Abv (fun v => Below w1.heap.size w1 v) => (show x.v.cell? ⟨w.heap.size + 1, 2, none⟩ = some (.int .i64 i.a) from (r1.keep x.ok).i.cell 2)
 have y3 := fun x : Abv (fun v => Below w1.heap.size w1 v) => (show x.v.cell? ⟨w.heap.size + 1, 3, none⟩ = some (.int .i64 i.b) from (r1.keep x.ok).i.cell 3)
 have y4 := fun x : Abv (fun v => Below w1.heap.size w1 v) => (show x.v.cell? ⟨w.heap.size + 1, 4, none⟩ = some (.int .i64 i.c) from (r1.keep x.ok).i.cell 4)
 have y5 := fun x : Abv (fun v => Below w1.heap.size w1 v) => (show x.v.cell? ⟨w.heap.size + 1, 5, none⟩ = some (.int .i64 i.imm) from (r1.keep x.ok).i.cell 5)
 have y6 := fun x : Abv (fun v => Below w1.heap.size w1 v) => (show x.v.cell? ⟨w.heap.size + 1, 6, none⟩ = some (.slice ua i.args.length qa) from (r1.keep x.ok).i.cell 6)
 --CUT1
 repeat (go_big_quiet_step ((first | (go_at_call 29; exact abv_call _ (FI _ (r1.keep (Abv.ok _)).below)) | (go_at_call 31; exact abv_call _ (RI _ (r1.keep (Abv.ok _)).below)) | (go_at_call 30; exact abv_call _ (SI _ (r1.keep (Abv.ok _)).below)) | fail)))
 --CUT2
 refine wpQuiet_nil ?_
 rintro w9 ⟨⟨w9, h9⟩, rfl⟩
 have r9 := r1.keep h9
 clear hne x0 x1 x2 y0 y1 y2 y3 y4 y5 y6
 have z0 : w9.cell? ⟨w.heap.size + 1 + 1, 0, none⟩ = some (.int .i64 0) := r9.r.cell 0
 have z1 : w9.cell? ⟨w.heap.size + 1 + 1, 1, none⟩ = some (.int .i64 0) := r9.r.cell 1
 have z2 : w9.cell? ⟨w.heap.size + 1 + 1, 2, none⟩ = some (.int .i64 0) := r9.r.cell 2
 have z3 : w9.cell? ⟨w.heap.size + 1 + 1, 3, none⟩ = some (.int .i64 0) := r9.r.cell 3
 have z4 : w9.cell? ⟨w.heap.size + 1 + 1, 4, none⟩ = some (.int .i64 0) := r9.r.cell 4
 have z5 : w9.cell? ⟨w.heap.size + 1 + 1, 5, none⟩ = some (.int .i64 0) := r9.r.cell 5
 have z6 : w9.cell? ⟨w.heap.size + 1 + 1, 6, none⟩ = some (.slice none 0 0) := r9.r.cell 6
 have zf : ∀ o, w9.frozen? ⟨w.heap.size + 1 + 1, o, none⟩ = false := fun o => froz_of_heap r9.r
 go_wp2_with fail
 --CUT3
 have hr := (heap_set (o := 6) (v := .slice none 0 0) (heap_set (o := 5) (v := .int .i64 0) (heap_set (o := 4) (v := .int .i64 0) (heap_set (o := 3) (v := .int .i64 0) (heap_set (o := 2) (v := .int .i64 0) (heap_set (o := 1) (v := .int .i64 0) (heap_set (o := 0) (v := .int .i64 0) r9.r)))))))
 refine bodyPost_ret (v := .agg #[.int .i64 0, .int .i64 0, .int .i64 0, .int .i64 0, .int .i64 0, .int .i64 0, .slice none 0 0]) ((results_cell_row Tryz.results7 _ _ (w.heap.size + 1 + 1) 29 _ (0, 0) _ rfl hr Tryz.underlying29 rfl (by kernel_rfl)).trans (by rfl)) rfl ⟨?_, ?_⟩
 ·rw [HZ.out]
  exact ⟨none, 0, rfl, Row.nil _ _⟩
 ·exact (by repeat (first | refine Below.setCell ?_ (by dsimp only; omega) _ | exact r9.below))
set_option maxHeartbeats 4000000 in
set_option maxRecDepth 100000 in
theorem foldI_y (lo : Nat) (d : FuncD) (i : InstD) (u0 : Option Addr) (c0 : Nat) (u2 : Option Addr) (c2 : Nat) (ua : Option Addr) (qa : Nat) (w : World) (hs : SmFunc d) (k0 : IntsAt w lo u0 d.params) (k2 : BlocksAt w lo u2 d.blocks) (ku : IntsAt w lo ua i.args) (hm : i.args.length ≤ 1048576) (hf : funcB 3 d = true) (hi : instB i (cntF d) 3 = true) (hS : ISm i) (hOK : ∀ k r, ruleK d i k = some r → OkR r) (hOi : OkR i) :
  Calls Tryz.prog 7 #[.agg #[.slice u0 d.params.length c0, .int .i64 d.ret, .slice u2 d.blocks.length c2], .agg #[.int .i64 i.op, .int .i64 i.w, .int .i64 i.a, .int .i64 i.b, .int .i64 i.c, .int .i64 i.imm, .slice ua i.args.length qa]] w fun e w' => InstNew w' w.heap.size (foldI d i) e ∧ Below w.heap.size w w' := by
 have FI := fun W (k : Below w.heap.size w W) => inFormI lo d u0 c0 u2 c2 W hs (k0.keep (agree_of_below k lo)) (k2.keep (agree_of_below k lo))
 have RI := fun W (k : Below w.heap.size w W) => roomI lo d u0 c0 u2 c2 W hs (k2.keep (agree_of_below k lo))
 have SI := fun W (k : Below w.heap.size w W) => instShI lo i ua qa (cntF d) d.blocks.length 3 W hm (ku.keep (agree_of_below k lo))
 rw [hf] at FI
 rw [hi] at SI
 have BF := fun W (k : Below w.heap.size w W) => byFirstI lo d i u0 c0 u2 c2 ua qa W hs (k0.keep (agree_of_below k lo)) (k2.keep (agree_of_below k lo)) (ku.keep (agree_of_below k lo)) hS hOK hOi
 have HZ : Hid (foldI d i = foldP d i) := by show _ = _; unfold foldI; rw [hi, hf]; simp
 clear hs k0 k2 ku hm hf hi hS hOK hOi
 have S0 := Fld.start (d := d) (i := i) (u0 := u0) (u2 := u2) (ua := ua) (c0 := c0) (c2 := c2) (qa := qa) (w := w)
 go_enter Tryz.func7, Tryz.ntmps7
 go_wp2_with fail
 generalize (((w.alloc (.cells #[.slice u0 d.params.length c0, .int .i64 d.ret, .slice u2 d.blocks.length c2] 27)).alloc (.cells #[.int .i64 i.op, .int .i64 i.w, .int .i64 i.a, .int .i64 i.b, .int .i64 i.c, .int .i64 i.imm, .slice ua i.args.length qa] 29)).alloc (.cells #[.int .i64 0, .int .i64 0, .int .i64 0, .int .i64 0, .int .i64 0, .int .i64 0, .slice none 0 0] 29)) = w1 at S0 ⊢
 have r1 : Hid (Fld d i u0 c0 u2 c2 ua qa w w1) := S0
 clear S0
 replace r1 := r1.out
 refine wp_region_abv (fun v => Below w1.heap.size w1 v) (by kernel_rfl) (by kernel_rfl) (drew_below (Below.refl _ _)) ?_
 have hne : Nonempty (Abv (fun v => Below w1.heap.size w1 v)) := abv_ne (Below.refl _ _)
 have x0 := fun x : Abv (fun v => Below w1.heap.size w1 v) => (show x.v.cell? ⟨w.heap.size, 0, none⟩ = some (.slice u0 d.params.length c0) from (r1.keep x.ok).f.cell 0)
 have x1 := fun x : Abv (fun v => Below w1.heap.size w1 v) => (show x.v.cell? ⟨w.heap.size, 1, none⟩ = some (.int .i64 d.ret) from (r1.keep x.ok).f.cell 1)
 have x2 := fun x : Abv (fun v => Below w1.heap.size w1 v) => (show x.v.cell? ⟨w.heap.size, 2, none⟩ = some (.slice u2 d.blocks.length c2) from (r1.keep x.ok).f.cell 2)
 have y0 := fun x : Abv (fun v => Below w1.heap.size w1 v) => (show x.v.cell? ⟨w.heap.size + 1, 0, none⟩ = some (.int .i64 i.op) from (r1.keep x.ok).i.cell 0)
 have y1 := fun x : Abv (fun v => Below w1.heap.size w1 v) => (show x.v.cell? ⟨w.heap.size + 1, 1, none⟩ = some (.int .i64 i.w) from (r1.keep x.ok).i.cell 1)
 have y2 := fun x : Abv (fun v => Below w1.heap.size w1 v) => (show x.v.cell? ⟨w.heap.size + 1, 2, none⟩ = some (.int .i64 i.a) from (r1.keep x.ok).i.cell 2)
 have y3 := fun x : Abv (fun v => Below w1.heap.size w1 v) => (show x.v.cell? ⟨w.heap.size + 1, 3, none⟩ = some (.int .i64 i.b) from (r1.keep x.ok).i.cell 3)
 have y4 := fun x : Abv (fun v => Below w1.heap.size w1 v) => (show x.v.cell? ⟨w.heap.size + 1, 4, none⟩ = some (.int .i64 i.c) from (r1.keep x.ok).i.cell 4)
 have y5 := fun x : Abv (fun v => Below w1.heap.size w1 v) => (show x.v.cell? ⟨w.heap.size + 1, 5, none⟩ = some (.int .i64 i.imm) from (r1.keep x.ok).i.cell 5)
 have y6 := fun x : Abv (fun v => Below w1.heap.size w1 v) => (show x.v.cell? ⟨w.heap.size + 1, 6, none⟩ = some (.slice ua i.args.length qa) from (r1.keep x.ok).i.cell 6)
 --CUT1
 repeat (go_big_quiet_step ((first | (go_at_call 29; exact abv_call _ (FI _ (r1.keep (Abv.ok _)).below)) | (go_at_call 31; exact abv_call _ (RI _ (r1.keep (Abv.ok _)).below)) | (go_at_call 30; exact abv_call _ (SI _ (r1.keep (Abv.ok _)).below)) | fail)))
 --CUT2
 refine wpQuiet_nil ?_
 rintro w9 ⟨⟨w9, h9⟩, rfl⟩
 have r9 := r1.keep h9
 clear hne x0 x1 x2 y0 y1 y2 y3 y4 y5 y6
 have x0 : w9.cell? ⟨w.heap.size, 0, none⟩ = some (.slice u0 d.params.length c0) := r9.f.cell 0
 have x1 : w9.cell? ⟨w.heap.size, 1, none⟩ = some (.int .i64 d.ret) := r9.f.cell 1
 have x2 : w9.cell? ⟨w.heap.size, 2, none⟩ = some (.slice u2 d.blocks.length c2) := r9.f.cell 2
 have y0 : w9.cell? ⟨w.heap.size + 1, 0, none⟩ = some (.int .i64 i.op) := r9.i.cell 0
 have y1 : w9.cell? ⟨w.heap.size + 1, 1, none⟩ = some (.int .i64 i.w) := r9.i.cell 1
 have y2 : w9.cell? ⟨w.heap.size + 1, 2, none⟩ = some (.int .i64 i.a) := r9.i.cell 2
 have y3 : w9.cell? ⟨w.heap.size + 1, 3, none⟩ = some (.int .i64 i.b) := r9.i.cell 3
 have y4 : w9.cell? ⟨w.heap.size + 1, 4, none⟩ = some (.int .i64 i.c) := r9.i.cell 4
 have y5 : w9.cell? ⟨w.heap.size + 1, 5, none⟩ = some (.int .i64 i.imm) := r9.i.cell 5
 have y6 : w9.cell? ⟨w.heap.size + 1, 6, none⟩ = some (.slice ua i.args.length qa) := r9.i.cell 6
 have BY := BF w9 r9.below
 go_wp2_with fail
 refine BY.mono ?_
 rintro e w5 ⟨⟨su, sq, rfl, hrow⟩, b5⟩
 have R5 : Hid (Fld d i u0 c0 u2 c2 ua qa w w5) := r9.keep b5
 have HROW : Hid (Row w5 w9.heap.size _ _) := hrow
 have hz9 : w.heap.size + 1 + 1 < w9.heap.size := r9.r.lt
 clear hrow x0 x1 x2 y0 y1 y2 y3 y4 y5 y6 b5
 generalize foldP d i = g at *
 have z0 : w5.cell? ⟨w.heap.size + 1 + 1, 0, none⟩ = some (.int .i64 0) := R5.out.r.cell 0
 have z1 : w5.cell? ⟨w.heap.size + 1 + 1, 1, none⟩ = some (.int .i64 0) := R5.out.r.cell 1
 have z2 : w5.cell? ⟨w.heap.size + 1 + 1, 2, none⟩ = some (.int .i64 0) := R5.out.r.cell 2
 have z3 : w5.cell? ⟨w.heap.size + 1 + 1, 3, none⟩ = some (.int .i64 0) := R5.out.r.cell 3
 have z4 : w5.cell? ⟨w.heap.size + 1 + 1, 4, none⟩ = some (.int .i64 0) := R5.out.r.cell 4
 have z5 : w5.cell? ⟨w.heap.size + 1 + 1, 5, none⟩ = some (.int .i64 0) := R5.out.r.cell 5
 have z6 : w5.cell? ⟨w.heap.size + 1 + 1, 6, none⟩ = some (.slice none 0 0) := R5.out.r.cell 6
 have zf : ∀ o, w5.frozen? ⟨w.heap.size + 1 + 1, o, none⟩ = false := fun o => froz_of_heap R5.out.r
 go_wp2_with fail
 --CUT3
 have hr := (heap_set (o := 6) (v := .slice su g.args.length sq) (heap_set (o := 5) (v := .int .i64 g.imm) (heap_set (o := 4) (v := .int .i64 g.c) (heap_set (o := 3) (v := .int .i64 g.b) (heap_set (o := 2) (v := .int .i64 g.a) (heap_set (o := 1) (v := .int .i64 g.w) (heap_set (o := 0) (v := .int .i64 g.op) R5.out.r)))))))
 refine bodyPost_ret (v := .agg #[.int .i64 g.op, .int .i64 g.w, .int .i64 g.a, .int .i64 g.b, .int .i64 g.c, .int .i64 g.imm, .slice su g.args.length sq]) ((results_cell_row Tryz.results7 _ _ (w.heap.size + 1 + 1) 29 _ (0, 0) _ rfl hr Tryz.underlying29 rfl (by kernel_rfl)).trans (by rfl)) rfl ⟨?_, ?_⟩
 ·rw [HZ.out]
  refine ⟨su, sq, rfl, ?_⟩
  refine (HROW.out.low (by omega)).block ?_
  intro q hq hql
  have hge := HROW.out.ge hq
  exact (by repeat (first | refine (Below.heap_setCell _ _ _ _ (by show q ≠ w.heap.size + 1 + 1; omega)).trans ?_ | rfl))
 ·exact (by repeat (first | refine Below.setCell ?_ (by dsimp only; omega) _ | exact R5.out.below))
end Go.Proofs.YtoknhppjdmoblaaGreatDoor
namespace Go.Proofs.YtoknhppjdmoblaaGreatDoor
set_option linter.unusedVariables false
set_option linter.unusedSimpArgs false
open Go.RowKit
theorem OkR.dflt {r : InstD} (h : OkR r) (k : Nat) : 0 ≤ (opsD r).getD k 0 ∧ (opsD r).getD k 0 ≤ 100000 := by
 rcases Nat.lt_or_ge k (opsD r).length with hk | hk
 ·have e : (opsD r).getD k 0 = (opsD r)[k] := by simp [List.getD, hk]
  rw [e]
  exact h.rng _ (List.getElem_mem hk)
 ·have e : (opsD r).getD k 0 = 0 := by simp [List.getD, hk]
  rw [e]; omega
theorem OkR.fields {r : InstD} (h : OkR r) : (0 ≤ r.a ∧ r.a ≤ 100000) ∧ (0 ≤ r.b ∧ r.b ≤ 100000) ∧ (0 ≤ r.c ∧ r.c ≤ 100000) := by
 have hb := h.back
 by_cases ho : r.op = 26
 ·unfold mkD at hb
  rw [if_pos ho] at hb
  have ha := congrArg InstD.a hb
  have hbb := congrArg InstD.b hb
  have hc := congrArg InstD.c hb
  dsimp only at ha hbb hc
  omega
 ·unfold mkD at hb
  rw [if_neg ho] at hb
  have ha := congrArg InstD.a hb
  have hbb := congrArg InstD.b hb
  have hc := congrArg InstD.c hb
  dsimp only at ha hbb hc
  have d0 := h.dflt 0
  have d1 := h.dflt 1
  have d2 := h.dflt 2
  omega
theorem OkR.sm {r : InstD} (h : OkR r) : ISm r := by
 obtain ⟨⟨_, ha⟩, ⟨_, hb⟩, _, hc⟩ := h.fields
 exact ⟨by omega, by omega, by omega⟩
theorem ok_const (w v : Int) : OkR (constD w v) := by
 have e : opsD (constD w v) = [] := by simp [opsD, constD, opB]
 refine ⟨?_, Or.inr (by rw [e]; simp), by simp [constD], by rw [e]; simp, by rw [e]; simp⟩
 rw [e]; simp [mkD, constD]
theorem ok_copy (w a : Int) (h : 0 ≤ a ∧ a ≤ 100000) : OkR (copyD w a) := by
 have e : opsD (copyD w a) = [a] := by simp [opsD, copyD, opB]
 refine ⟨?_, Or.inr (by rw [e]; simp), by simp [copyD], by rw [e]; simp, by rw [e]; simpa using h⟩
 rw [e]; simp [mkD, copyD]
theorem ok_pick {i : InstD} (h : OkR i) (n : Nat) : OkR (pickD i n) := by
 obtain ⟨ha, hb, _⟩ := h.fields
 unfold pickD
 split
 ·exact ok_copy _ _ ha
 ·exact ok_copy _ _ hb
 ·exact ok_const _ _
 ·exact ok_const _ _
 ·exact h
theorem ok_ruleN {i r : InstD} {n : Nat} (h : OkR i) (e : ruleN i n = some r) : OkR r := by
 unfold ruleN at e
 split at e
 ·cases e
 ·cases e; exact ok_pick h n
theorem ok_rule (d : FuncD) {i : InstD} (h : OkR i) : ∀ k r, ruleK d i k = some r → OkR r
 | 0, r, e => by
  have e' : rule1 d i = some r := e
  unfold rule1 at e'
  split at e'
  ·split at e'
   ·split at e'
    ·cases e'; exact ok_const _ _
    ·cases e'; exact h
   ·cases e'
  ·cases e'
 | 1, r, e => ok_ruleN h (show ruleN i _ = some r from e)
 | 2, r, e => ok_ruleN h (show ruleN i _ = some r from e)
 | 3, r, e => by
  have e' : rule4 d i = some r := e
  unfold rule4 at e'
  split at e'
  ·split at e'
   ·cases e'; exact ok_const _ _
   ·cases e'
  ·cases e'
 | 4, r, e => by
  have e' : rule5 d i = some r := e
  unfold rule5 at e'
  obtain ⟨ha, hb, hc⟩ := h.fields
  split at e'
  ·split at e'
   ·cases e'; exact ok_copy _ _ hb
   ·split at e'
    ·cases e'; exact ok_copy _ _ hc
    ·cases e'
  ·cases e'
 | 5, r, e => by
  have e' : rule6 d i = some r := e
  unfold rule6 at e'
  split at e'
  ·split at e'
   ·cases e'; exact ok_const _ _
   ·cases e'
  ·cases e'
 | k + 6, r, e => by
  have e' : (none : Option InstD) = some r := e
  cases e'
theorem ok_inst {i : InstD} {ids : Int} (hids : ids ≤ 100000) (h : instB i ids 3 = true) : OkR i := by
 unfold instB at h
 simp only [Bool.and_eq_true] at h
 obtain ⟨⟨⟨_, _⟩, hf⟩, hall⟩ := h
 have hr : ∀ x ∈ opsD i, 0 ≤ x ∧ x ≤ 100000 := by
  intro x hx
  have := List.all_eq_true.1 hall x hx
  simp [belowB] at this
  omega
 unfold fB at hf
 by_cases ho : i.op = 26
 ·rw [if_pos ho] at hf
  simp only [Bool.and_eq_true, decide_eq_true_eq, beq_iff_eq] at hf
  obtain ⟨⟨⟨hl, ha⟩, hb⟩, hc⟩ := hf
  have e : opsD i = i.args := by simp [opsD, opB, ho]
  refine ⟨?_, Or.inl ho, by omega, by rw [e]; omega, hr⟩
  rw [e]; unfold mkD; rw [if_pos ho]
  rcases i with ⟨op, w, a, b, c, imm, args⟩
  dsimp only at ha hb hc ⊢
  rw [ha, hb, hc]
 ·rw [if_neg ho] at hf
  simp only [Bool.and_eq_true, Bool.or_eq_true, decide_eq_true_eq, beq_iff_eq] at hf
  obtain ⟨⟨⟨hl, ha⟩, hb⟩, hc⟩ := hf
  have hargs : i.args = [] := List.length_eq_zero_iff.1 hl
  have hle : (opsD i).length ≤ 3 ∧ mkD i.op i.w i.imm (opsD i) = i := by
   unfold mkD
   rw [if_neg ho]
   rcases i with ⟨op, w, a, b, c, imm, args⟩
   dsimp only at ha hb hc hargs ho ⊢
   subst hargs
   unfold opsD at *
   dsimp only at *
   split at ha <;> rename_i h1
   ·simp [h1] at hb hc ⊢; exact hc.symm
   ·split at ha <;> rename_i h2
    ·simp [h1, h2] at hb hc ⊢; exact ⟨hb.symm, hc.symm⟩
    ·split at ha <;> rename_i h3
     ·rw [if_neg h1, if_neg h2, if_pos h3]; simp
     ·simp [h1, h2, h3, ho] at ha hb hc ⊢; exact ⟨ha.symm, hb.symm, hc.symm⟩
  exact ⟨hle.2, Or.inr hle.1, by rw [hargs]; simp, by omega, hr⟩
theorem foldedI (lo : Nat) (d : FuncD) (i : InstD) (u0 : Option Addr) (c0 : Nat) (u2 : Option Addr) (c2 : Nat) (ua : Option Addr) (qa : Nat) (w : World) (hs : SmFunc d) (k0 : IntsAt w lo u0 d.params) (k2 : BlocksAt w lo u2 d.blocks) (ku : IntsAt w lo ua i.args) (hm : i.args.length ≤ 1048576) :
  Calls Tryz.prog 7 #[.agg #[.slice u0 d.params.length c0, .int .i64 d.ret, .slice u2 d.blocks.length c2], .agg #[.int .i64 i.op, .int .i64 i.w, .int .i64 i.a, .int .i64 i.b, .int .i64 i.c, .int .i64 i.imm, .slice ua i.args.length qa]] w fun e w' => InstNew w' w.heap.size (foldI d i) e ∧ Below w.heap.size w w' := by
 cases hf : funcB 3 d with
 | false => exact foldI_f lo d i u0 c0 u2 c2 ua qa w hs k0 k2 ku hm hf
 | true =>
  cases hi : instB i (cntF d) 3 with
  | false => exact foldI_s lo d i u0 c0 u2 c2 ua qa w hs k0 k2 ku hm hf hi
  | true =>
   have hc : cntF d ≤ 60 := by
    unfold funcB at hf
    simp only [Bool.and_eq_true, decide_eq_true_eq] at hf
    exact hf.1.2
   have ok := ok_inst (by omega) hi
   exact foldI_y lo d i u0 c0 u2 c2 ua qa w hs k0 k2 ku hm hf hi ok.sm (ok_rule d ok) ok
end Go.Proofs.YtoknhppjdmoblaaGreatDoor
namespace Go.Proofs.YtoknhppjdmoblaaGreatDoor
set_option linter.unusedVariables false
set_option linter.unusedSimpArgs false
open Go.RowKit
def InstGot (w : World) (base : Nat) (r : InstD) (e : Ending) : Prop := ∃ (ru : Option Addr) (rq : Nat), e = .returned (.agg #[.int .i64 r.op, .int .i64 r.w, .int .i64 r.a, .int .i64 r.b, .int .i64 r.c, .int .i64 r.imm, .slice ru r.args.length rq]) ∧ IntsAt w base ru r.args
theorem ints_nil {w : World} {base : Nat} {u : Option Addr} : IntsAt w base u [] := ⟨by simp, .inl rfl⟩
structure IBo9 (d : InstD) (u : Option Addr) (q : Nat) (w w1 : World) : Prop where
 c0 : w1.cell? ⟨w.heap.size, 0, none⟩ = some (.int .i64 d.op)
 c1 : w1.cell? ⟨w.heap.size, 1, none⟩ = some (.int .i64 d.w)
 c2 : w1.cell? ⟨w.heap.size, 2, none⟩ = some (.int .i64 d.a)
 c3 : w1.cell? ⟨w.heap.size, 3, none⟩ = some (.int .i64 d.b)
 c4 : w1.cell? ⟨w.heap.size, 4, none⟩ = some (.int .i64 d.c)
 c5 : w1.cell? ⟨w.heap.size, 5, none⟩ = some (.int .i64 d.imm)
 c6 : w1.cell? ⟨w.heap.size, 6, none⟩ = some (.slice u d.args.length q)
 below : Below w.heap.size w w1
 size : w.heap.size + 1 ≤ w1.heap.size
theorem IBo9.start {d : InstD} {u : Option Addr} {q : Nat} {w : World} {T : TypeId} : IBo9 d u q w (w.alloc (.cells #[.int .i64 d.op, .int .i64 d.w, .int .i64 d.a, .int .i64 d.b, .int .i64 d.c, .int .i64 d.imm, .slice u d.args.length q] T)) := by
 have hb := heap_alloc_last w (.cells #[.int .i64 d.op, .int .i64 d.w, .int .i64 d.a, .int .i64 d.b, .int .i64 d.c, .int .i64 d.imm, .slice u d.args.length q] T)
 exact ⟨(cell_of_heap hb).trans rfl, (cell_of_heap hb).trans rfl, (cell_of_heap hb).trans rfl, (cell_of_heap hb).trans rfl, (cell_of_heap hb).trans rfl, (cell_of_heap hb).trans rfl, (cell_of_heap hb).trans rfl, (Below.refl _ _).alloc (Nat.le_refl _) _, by simp⟩
theorem IBo9.keep {d : InstD} {u : Option Addr} {q : Nat} {w w1 w2 : World} (h : IBo9 d u q w w1) (k : Below (w.heap.size + 1) w1 w2) : IBo9 d u q w w2 := by
 have e : ∀ o, w2.cell? ⟨w.heap.size, o, none⟩ = w1.cell? ⟨w.heap.size, o, none⟩ := fun o => cell_block (k.block _ (by omega))
 exact ⟨(e 0).trans h.c0, (e 1).trans h.c1, (e 2).trans h.c2, (e 3).trans h.c3, (e 4).trans h.c4, (e 5).trans h.c5, (e 6).trans h.c6, h.below.trans (k.mono (by omega)), Nat.le_trans h.size k.size⟩
set_option maxHeartbeats 1000000 in
theorem copy9S (lo : Nat) (d : InstD) (u : Option Addr) (q : Nat) (w : World) (hm : d.args.length ≤ 1048576) (hk : IntsAt w lo u d.args) :
  Calls Tryz.prog 76 #[.agg #[.int .i64 d.op, .int .i64 d.w, .int .i64 d.a, .int .i64 d.b, .int .i64 d.c, .int .i64 d.imm, .slice u d.args.length q]] w fun e w' => InstGot w' w.heap.size d e ∧ Below w.heap.size w w' := by
 have hl : ∀ o p : Obj, ((w.alloc o).alloc p).heap[w.heap.size + 1]? = some p := fun o p => by
  rw [← show (w.alloc o).heap.size = w.heap.size + 1 from by simp]; exact heap_alloc_last _ _
 have B0 : IBo9 d u q w _ := IBo9.start (T := 29)
 go_enter Tryz.func76, Tryz.ntmps76
 go_wp2_with (go_at_call 109; refine (copyS_any lo _ _ _ _ hm (hk.keep ((agree_alloc _ _ _).trans (agree_alloc _ _ _)))).mono ?_; rintro e w1 ⟨v, c, rfl, hu, hb1⟩; have hcc := bcell hb1; have hff := bfroz hb1; have I1 := (B0.keep ((Below.refl _ _).alloc B0.size (.cells #[.int .i64 0, .int .i64 0, .int .i64 0, .int .i64 0, .int .i64 0, .int .i64 0, .slice none 0 0] 29))).keep (hb1.mono (by simp)); have y6 := I1.c6)
 have hB : Below w.heap.size w w1 := (((Below.refl w.heap.size w).alloc (Nat.le_refl _) _).alloc (by first | (simp; done) | (simp; omega)) _).trans (hb1.mono (by first | (simp; done) | (simp; omega)))
 have hu3 := hu.ints.low (lo' := w.heap.size + 2) (by first | (simp; done) | (simp; omega))
 have hr := (heap_set (o := 6) (v := .slice v d.args.length c) (heap_set (o := 5) (v := .int .i64 d.imm) (heap_set (o := 4) (v := .int .i64 d.c) (heap_set (o := 3) (v := .int .i64 d.b) (heap_set (o := 2) (v := .int .i64 d.a) (heap_set (o := 1) (v := .int .i64 d.w) (heap_set (o := 0) (v := .int .i64 d.op) (heap_other (g := w.heap.size + 1) (p := ⟨w.heap.size, 6, none⟩) (v := .slice v d.args.length c) (by simp) ((hb1.block (w.heap.size + 1) (by simp)).trans (hl _ _))))))))))
 refine bodyPost_ret (v := .agg #[.int .i64 d.op, .int .i64 d.w, .int .i64 d.a, .int .i64 d.b, .int .i64 d.c, .int .i64 d.imm, .slice v d.args.length c]) ((results_cell_row Tryz.results76 _ _ (w.heap.size + 1) 29 _ (0, 0) _ rfl hr Tryz.underlying29 rfl (by kernel_rfl)).trans (by rfl)) rfl ⟨⟨v, c, rfl, ?_⟩, ?_⟩
 ·exact (hu3.keep (by repeat (first | refine Agree.trans ?_ (agree_setCell _ _ _ _ _ (by omega)) | exact Agree.refl _ _))).low (by omega)
 ·exact (by repeat (first | refine Below.setCell ?_ (by dsimp only; omega) _ | exact hB))
set_option maxHeartbeats 1000000 in
theorem const9S (wd v : Int) (w : World) : Calls Tryz.prog 74 #[.int .i64 wd, .int .i64 v] w fun e w' => InstGot w' w.heap.size (constD wd v) e ∧ Below w.heap.size w w' := by
 go_enter Tryz.func74, Tryz.ntmps74
 go_wp2_with fail
 have hr := heap_alloc_last w (.cells #[.int .i64 21, .int .i64 wd, .int .i64 0, .int .i64 0, .int .i64 0, .int .i64 v, .slice none 0 0] 29)
 refine bodyPost_ret (v := .agg #[.int .i64 21, .int .i64 wd, .int .i64 0, .int .i64 0, .int .i64 0, .int .i64 v, .slice none 0 0]) ((results_cell_row Tryz.results74 _ _ (w.heap.size) 29 _ (0, 0) _ rfl hr Tryz.underlying29 rfl (by kernel_rfl)).trans (by rfl)) rfl ⟨⟨none, 0, rfl, ints_nil⟩, (Below.refl _ _).alloc (Nat.le_refl _) _⟩
set_option maxHeartbeats 1000000 in
theorem same9S (wd v : Int) (w : World) : Calls Tryz.prog 80 #[.int .i64 wd, .int .i64 v] w fun e w' => InstGot w' w.heap.size (copyD wd v) e ∧ Below w.heap.size w w' := by
 go_enter Tryz.func80, Tryz.ntmps80
 go_wp2_with fail
 have hr := heap_alloc_last w (.cells #[.int .i64 27, .int .i64 wd, .int .i64 v, .int .i64 0, .int .i64 0, .int .i64 0, .slice none 0 0] 29)
 refine bodyPost_ret (v := .agg #[.int .i64 27, .int .i64 wd, .int .i64 v, .int .i64 0, .int .i64 0, .int .i64 0, .slice none 0 0]) ((results_cell_row Tryz.results80 _ _ (w.heap.size) 29 _ (0, 0) _ rfl hr Tryz.underlying29 rfl (by kernel_rfl)).trans (by rfl)) rfl ⟨⟨none, 0, rfl, ints_nil⟩, (Below.refl _ _).alloc (Nat.le_refl _) _⟩
end Go.Proofs.YtoknhppjdmoblaaGreatDoor
