import Derived.Test.YtoknhppjdmoblaaGreatDoorFdMQ
import Derived.Test.YtoknhppjdmoblaaGreatDoorFdYQ
import Derived.Test.YtoknhppjdmoblaaGreatDoorFiB
import Derived.Test.YtoknhppjdmoblaaGreatDoorIns
namespace Go.Proofs.YtoknhppjdmoblaaGreatDoor
set_option linter.unusedVariables false
set_option linter.unusedSimpArgs false
open Go.RowKit Go.Deep
theorem pick_cases (i : InstD) (n : Nat) : ((pickD i n).op = 21 ∧ (pickD i n).args = []) ∨ ((pickD i n).op = 27 ∧ (pickD i n).args = []) ∨ pickD i n = i := by
 rcases n with _ | _ | _ | _ | _ | n
 ·exact .inr (.inr rfl)
 ·exact .inr (.inl ⟨rfl, rfl⟩)
 ·exact .inr (.inl ⟨rfl, rfl⟩)
 ·exact .inl ⟨rfl, rfl⟩
 ·exact .inl ⟨rfl, rfl⟩
 ·exact .inr (.inr rfl)
theorem foldF_cases (d : FuncD) (i : InstD) : ((foldF d i).op = 21 ∧ (foldF d i).args = []) ∨ ((foldF d i).op = 27 ∧ (foldF d i).args = []) ∨ foldF d i = i := by
 unfold foldF
 split
 ·split
  ·split
   ·exact .inl ⟨rfl, rfl⟩
   ·exact .inr (.inr rfl)
  ·exact pick_cases _ _
 ·split
  ·split
   ·split
    ·exact .inl ⟨rfl, rfl⟩
    ·exact .inr (.inr rfl)
   ·exact .inr (.inr rfl)
  ·split
   ·split
    ·exact .inr (.inl ⟨rfl, rfl⟩)
    ·split
     ·exact .inr (.inl ⟨rfl, rfl⟩)
     ·exact .inr (.inr rfl)
   ·split
    ·split
     ·split
      ·exact .inl ⟨rfl, rfl⟩
      ·exact .inr (.inr rfl)
     ·exact .inr (.inr rfl)
    ·exact .inr (.inr rfl)
theorem fold_cases (d : FuncD) (i : InstD) : ((foldI d i).op = 21 ∧ (foldI d i).args = []) ∨ ((foldI d i).op = 27 ∧ (foldI d i).args = []) ∨ foldI d i = i ∨ foldI d i = zeroI := by
 unfold foldI
 split
 ·rw [fold_same]
  rcases foldF_cases d i with h | h | h
  ·exact .inl h
  ·exact .inr (.inl h)
  ·exact .inr (.inr (.inl h))
 ·exact .inr (.inr (.inr rfl))
theorem fold_args (d : FuncD) (i : InstD) (h : i.args.length ≤ 1048576) : (foldI d i).args.length ≤ 1048576 := by
 rcases fold_cases d i with k | k | k | k
 ·rw [k.2]; simp
 ·rw [k.2]; simp
 ·rw [k]; exact h
 ·rw [k]; simp [zeroI]
set_option maxHeartbeats 1000000 in
theorem sameNilL (u v : Option Addr) (c q n : Nat) (w : World) :
  Calls Tryz.prog 36 #[.slice u 0 c, .slice v n q] w fun e w' => (∃ b, e = .returned (.bool b)) ∧ ∃ k, w' = w.drewN k := by
 by_cases hn : n = 0
 ·subst hn
  go_enter Tryz.func36, Tryz.ntmps36
  go_wp2_with fail
  go_loopw [5] (fun q wr => q = .int .i64 0 ∧ ∃ n, wr = w.drewN n) (fun q _ => 0)
  case atStart => exact ⟨rfl, 0, rfl⟩
  case round =>
   obtain ⟨rfl, n, rfl⟩ := hrel
   go_wp2_with fail
   go_ret
   exact ⟨⟨_, rfl⟩, n, rfl⟩
 ·have h1 : ((0 : Int) == (n : Int)) = false := by simp; omega
  have h2 : ¬ ((0 : Int) = (n : Int)) := by omega
  go_enter Tryz.func36, Tryz.ntmps36
  go_wp2_with fail
  go_ret
  exact ⟨⟨_, rfl⟩, 0, rfl⟩
set_option maxHeartbeats 2000000 in
set_option maxRecDepth 100000 in
theorem sameZeroL (i : InstD) (u : Option Addr) (c : Nat) (v : Option Addr) (q : Nat) (w : World) :
  Calls Tryz.prog 11 #[.agg #[.int .i64 0, .int .i64 0, .int .i64 0, .int .i64 0, .int .i64 0, .int .i64 0, .slice u 0 c], .agg #[.int .i64 i.op, .int .i64 i.w, .int .i64 i.a, .int .i64 i.b, .int .i64 i.c, .int .i64 i.imm, .slice v i.args.length q]] w fun e w' => (∃ b, e = .returned (.bool b)) ∧ Below w.heap.size w w' := by
 have B1 : Below w.heap.size w ((w.alloc (.cells #[.int .i64 0, .int .i64 0, .int .i64 0, .int .i64 0, .int .i64 0, .int .i64 0, .slice u 0 c] 29)).alloc (.cells #[.int .i64 i.op, .int .i64 i.w, .int .i64 i.a, .int .i64 i.b, .int .i64 i.c, .int .i64 i.imm, .slice v i.args.length q] 29)) := ((Below.refl _ _).alloc (Nat.le_refl _) _).alloc (by simp) _
 have P := sameNilL u v c q i.args.length ((w.alloc (.cells #[.int .i64 0, .int .i64 0, .int .i64 0, .int .i64 0, .int .i64 0, .int .i64 0, .slice u 0 c] 29)).alloc (.cells #[.int .i64 i.op, .int .i64 i.w, .int .i64 i.a, .int .i64 i.b, .int .i64 i.c, .int .i64 i.imm, .slice v i.args.length q] 29))
 have HB : Hid (Below w.heap.size w _) := B1
 clear B1
 obtain ⟨io, iw, ia, ib, ic, im, il⟩ := i
 dsimp only at P HB ⊢
 go_enter Tryz.func11, Tryz.ntmps11
 by_cases h0 : io = 0
 ·subst h0
  by_cases h1 : iw = 0
  ·subst h1
   by_cases h2 : ia = 0
   ·subst h2
    by_cases h3 : ib = 0
    ·subst h3
     by_cases h4 : ic = 0
     ·subst h4
      by_cases h5 : im = 0
      ·subst h5
       go_wp2_with fail
       refine P.mono ?_
       rintro e w1 ⟨⟨b, rfl⟩, n, rfl⟩
       go_wp2_with fail
       go_ret
       exact ⟨⟨_, rfl⟩, below_drewN HB.out n⟩
      ·have e5 : ((0 : Int) == im) = false := by simp; exact fun e => h5 e.symm
       have f5 : ¬ ((0 : Int) = im) := fun e => h5 e.symm
       go_wp2_with fail
       go_ret
       exact ⟨⟨_, rfl⟩, HB.out⟩
     ·have e4 : ((0 : Int) == ic) = false := by simp; exact fun e => h4 e.symm
      have f4 : ¬ ((0 : Int) = ic) := fun e => h4 e.symm
      go_wp2_with fail
      go_ret
      exact ⟨⟨_, rfl⟩, HB.out⟩
    ·have e3 : ((0 : Int) == ib) = false := by simp; exact fun e => h3 e.symm
     have f3 : ¬ ((0 : Int) = ib) := fun e => h3 e.symm
     go_wp2_with fail
     go_ret
     exact ⟨⟨_, rfl⟩, HB.out⟩
   ·have e2 : ((0 : Int) == ia) = false := by simp; exact fun e => h2 e.symm
    have f2 : ¬ ((0 : Int) = ia) := fun e => h2 e.symm
    go_wp2_with fail
    go_ret
    exact ⟨⟨_, rfl⟩, HB.out⟩
  ·have e1 : ((0 : Int) == iw) = false := by simp; exact fun e => h1 e.symm
   have f1 : ¬ ((0 : Int) = iw) := fun e => h1 e.symm
   go_wp2_with fail
   go_ret
   exact ⟨⟨_, rfl⟩, HB.out⟩
 ·have e0 : ((0 : Int) == io) = false := by simp; exact fun e => h0 e.symm
  have f0 : ¬ ((0 : Int) = io) := fun e => h0 e.symm
  go_wp2_with fail
  go_ret
  exact ⟨⟨_, rfl⟩, HB.out⟩
set_option maxHeartbeats 1000000 in
theorem drawConstOf (a0 : Option Addr) (len cap : Nat) (w : World) (hl : len ≤ 1048576) (hc : Code a0 len w.heap.size w) :
  Calls Tryz.prog 8 #[.slice a0 len cap] w fun e w' => ∃ (d : FuncD) (up ub : Option Addr) (cp cb : Nat) (n : Int), e = .returned (.tuple #[.agg #[.slice up d.params.length cp, .int .i64 d.ret, .slice ub d.blocks.length cb], .int .i64 n]) ∧ -9223372036854775808 ≤ n ∧ n ≤ 9223372036854775807 ∧ SmFunc d ∧ 1 ≤ d.blocks.length ∧ IntsAt w' w.heap.size up d.params ∧ BlocksAt w' w.heap.size ub d.blocks ∧ Below w.heap.size w w' := by
 have hb0 : Below w.heap.size w (w.alloc (.cells #[.slice none 0 0, .int .i64 0, .slice none 0 0] 27)) := (Below.refl _ _).alloc (Nat.le_refl _) _
 have PD := drawTypeOf a0 len cap _ hl (hc.below hb0)
 go_enter Tryz.func8, Tryz.ntmps8
 go_wp2_with (first | (go_at_call 33; refine PD.mono ?_; rintro e w1 ⟨d, up, ub, cp, cb, n, rfl, hn1, hn2, hsm, hone, hin, hbl, hb1⟩; have hcc := bcell hb1; have hff := bfroz hb1))
 have hR : w1.heap[w.heap.size]? = some (.cells #[.slice none 0 0, .int .i64 0, .slice none 0 0] 27 (0, 0)) := (hb1.block w.heap.size (by simp)).trans (heap_alloc_last _ _)
 have hr := heap_set (o := 2) (v := .slice ub d.blocks.length cb) (heap_set (o := 1) (v := .int .i64 d.ret) (heap_set (o := 0) (v := .slice up d.params.length cp) hR))
 have hsz : (w.alloc (.cells #[.slice none 0 0, .int .i64 0, .slice none 0 0] 27)).heap.size = w.heap.size + 1 := by simp
 rw [hsz] at hin hbl
 have hset : ∀ b, b ≠ w.heap.size → (((w1.setCell ⟨w.heap.size, 0, none⟩ (.slice up d.params.length cp)).setCell ⟨w.heap.size, 1, none⟩ (.int .i64 d.ret)).setCell ⟨w.heap.size, 2, none⟩ (.slice ub d.blocks.length cb)).heap[b]? = w1.heap[b]? := fun b hb => by rw [Below.heap_setCell _ _ _ _ hb, Below.heap_setCell _ _ _ _ hb, Below.heap_setCell _ _ _ _ hb]
 have hag : Agree (w.heap.size + 1) w1 (((w1.setCell ⟨w.heap.size, 0, none⟩ (.slice up d.params.length cp)).setCell ⟨w.heap.size, 1, none⟩ (.int .i64 d.ret)).setCell ⟨w.heap.size, 2, none⟩ (.slice ub d.blocks.length cb)) := ⟨by simp only [World.size_setCell]; exact Nat.le_refl _, fun b h1 h2 => hset b (by omega)⟩
 have hB1 : Below w.heap.size w w1 := hb0.trans (hb1.mono (by omega))
 refine bodyPost_ret (v := .tuple #[.agg #[.slice up d.params.length cp, .int .i64 d.ret, .slice ub d.blocks.length cb], .int .i64 n]) ((results_pair Tryz.results8 _ _ w.heap.size _ rfl (run_loadVar_row _ _ 27 _ _ (0, 0) _ hr Tryz.underlying27 rfl (by kernel_rfl))).trans (by rfl)) rfl ⟨d, up, ub, cp, cb, n, rfl, hn1, hn2, hsm, hone, (hin.keep hag).low (by omega), (hbl.keep hag).low (by omega), ?_⟩
 exact ((hB1.setCell (Nat.le_refl _) _).setCell (Nat.le_refl _) _).setCell (Nat.le_refl _) _
theorem const_pair {x : Option Int} {e : Ending} (h : ConstTold x e) : ∃ (v : Int) (b : Bool), e = .returned (.tuple #[.int .i64 v, .bool b]) ∧ ∀ e', ConstTold x e' → e' = .returned (.tuple #[.int .i64 v, .bool b]) := by
 cases x with
 | none => exact ⟨0, false, h, fun _ k => k⟩
 | some v => exact ⟨v, true, h, fun _ k => k⟩
set_option maxHeartbeats 8000000 in
set_option maxRecDepth 100000 in
theorem fnFoldedInst_core (a0 : Option Addr) (len cap : Nat) (w : World) (hc : Code a0 len w.heap.size w) :
  Calls Tryz.prog 3 #[.slice a0 len cap] w fun e w' => e = .returned (.bool true) ∧ Below w.heap.size w w' := by
 by_cases hl : 1048576 < len
 ·have hb : decide (1048576 < len) = true := by simpa using hl
  go_enter Tryz.func3, Tryz.ntmps3
  go_wp2_with fail
  refine (big_any a0 len cap w).mono ?_
  rintro e w1 ⟨rfl, h9⟩
  have h8 := h9.symm
  clear h9
  subst h8
  rw [hb]
  go_wp2_with fail
  go_ret
  exact ⟨rfl, Below.refl _ _⟩
 have hb : decide (1048576 < len) = false := by simpa using hl
 have hl2 : len ≤ 1048576 := by omega
 have D1 := drawFolded a0 len cap w hl2 hc
 have HC : Hid (Code a0 len w.heap.size w) := hc
 clear hc hl
 go_enter Tryz.func3, Tryz.ntmps3
 go_wp2_with fail
 refine (big_any a0 len cap w).mono ?_
 rintro e w1 ⟨rfl, h9⟩
 have h8 := h9.symm
 clear h9
 subst h8
 rw [hb]
 clear hb
 go_wp2_with fail
 refine D1.mono ?_
 rintro e w2 ⟨d, i, up, ub, au, cp, cb, ac, rfl, hsm, hil, hin, hbl, hai, b2⟩
 have k2 : Below w2.heap.size w2 ((w2.alloc (.cells #[.slice up d.params.length cp, .int .i64 d.ret, .slice ub d.blocks.length cb] 27)).alloc (.cells #[.int .i64 i.op, .int .i64 i.w, .int .i64 i.a, .int .i64 i.b, .int .i64 i.c, .int .i64 i.imm, .slice au i.args.length ac] 29)) := ((Below.refl _ _).alloc (Nat.le_refl _) _).alloc (by simp) _
 have qf : At ((w2.alloc (.cells #[.slice up d.params.length cp, .int .i64 d.ret, .slice ub d.blocks.length cb] 27)).alloc (.cells #[.int .i64 i.op, .int .i64 i.w, .int .i64 i.a, .int .i64 i.b, .int .i64 i.c, .int .i64 i.imm, .slice au i.args.length ac] 29)) w2.heap.size #[.slice up d.params.length cp, .int .i64 d.ret, .slice ub d.blocks.length cb] 27 := heap_alloc2_old _ _ _
 have qi : At ((w2.alloc (.cells #[.slice up d.params.length cp, .int .i64 d.ret, .slice ub d.blocks.length cb] 27)).alloc (.cells #[.int .i64 i.op, .int .i64 i.w, .int .i64 i.a, .int .i64 i.b, .int .i64 i.c, .int .i64 i.imm, .slice au i.args.length ac] 29)) (w2.heap.size + 1) #[.int .i64 i.op, .int .i64 i.w, .int .i64 i.a, .int .i64 i.b, .int .i64 i.c, .int .i64 i.imm, .slice au i.args.length ac] 29 := heap_alloc2_new _ _ _
 have QF3 : Hid (At _ w2.heap.size #[.slice up d.params.length cp, .int .i64 d.ret, .slice ub d.blocks.length cb] 27) := qf
 have QI3 : Hid (At _ (w2.heap.size + 1) #[.int .i64 i.op, .int .i64 i.w, .int .i64 i.a, .int .i64 i.b, .int .i64 i.c, .int .i64 i.imm, .slice au i.args.length ac] 29) := qi
 have B3 : Hid (Below w.heap.size w _) := b2.trans (k2.mono b2.size)
 have P3 : Hid (IntsAt _ w.heap.size up d.params) := hin.keep (agree_of_below k2 _)
 have K3 : Hid (BlocksAt _ w.heap.size ub d.blocks) := hbl.keep (agree_of_below k2 _)
 have A3 : Hid (IntsAt _ w.heap.size au i.args) := hai.keep (agree_of_below k2 _)
 have Hsm : Hid (SmFunc d) := hsm
 have hz3 : ((w2.alloc (.cells #[.slice up d.params.length cp, .int .i64 d.ret, .slice ub d.blocks.length cb] 27)).alloc (.cells #[.int .i64 i.op, .int .i64 i.w, .int .i64 i.a, .int .i64 i.b, .int .i64 i.c, .int .i64 i.imm, .slice au i.args.length ac] 29)).heap.size = w2.heap.size + 2 := by simp
 clear D1 b2 k2 hin hbl hai hsm qf qi
 obtain ⟨W3, hW3⟩ : ∃ W, ((w2.alloc (.cells #[.slice up d.params.length cp, .int .i64 d.ret, .slice ub d.blocks.length cb] 27)).alloc (.cells #[.int .i64 i.op, .int .i64 i.w, .int .i64 i.a, .int .i64 i.b, .int .i64 i.c, .int .i64 i.imm, .slice au i.args.length ac] 29)) = W := ⟨_, rfl⟩
 rw [hW3] at QF3 QI3 B3 P3 K3 A3 hz3
 have x0 : W3.cell? ⟨w2.heap.size, 0, none⟩ = some (.slice up d.params.length cp) := QF3.out.cell 0
 have x1 : W3.cell? ⟨w2.heap.size, 1, none⟩ = some (.int .i64 d.ret) := QF3.out.cell 1
 have x2 : W3.cell? ⟨w2.heap.size, 2, none⟩ = some (.slice ub d.blocks.length cb) := QF3.out.cell 2
 have y0 : W3.cell? ⟨(w2.heap.size + 1), 0, none⟩ = some (.int .i64 i.op) := QI3.out.cell 0
 have y1 : W3.cell? ⟨(w2.heap.size + 1), 1, none⟩ = some (.int .i64 i.w) := QI3.out.cell 1
 have y2 : W3.cell? ⟨(w2.heap.size + 1), 2, none⟩ = some (.int .i64 i.a) := QI3.out.cell 2
 have y3 : W3.cell? ⟨(w2.heap.size + 1), 3, none⟩ = some (.int .i64 i.b) := QI3.out.cell 3
 have y4 : W3.cell? ⟨(w2.heap.size + 1), 4, none⟩ = some (.int .i64 i.c) := QI3.out.cell 4
 have y5 : W3.cell? ⟨(w2.heap.size + 1), 5, none⟩ = some (.int .i64 i.imm) := QI3.out.cell 5
 have y6 : W3.cell? ⟨(w2.heap.size + 1), 6, none⟩ = some (.slice au i.args.length ac) := QI3.out.cell 6
 have FI := foldedI w.heap.size d i up cp ub cb au ac W3 Hsm.out P3.out K3.out A3.out hil
 go_wp2_with fail
 try rw [hW3]
 clear hW3
 refine FI.mono ?_
 rintro e w4 ⟨⟨ru, rq, rfl, hrow⟩, b4⟩
 have ifl : i.args.length ≤ 1048576 := hil
 obtain ⟨j, Hj⟩ : ∃ j, Hid (foldI d i = j) := ⟨_, rfl⟩
 rw [Hj.out] at hrow ⊢
 have hjl : j.args.length ≤ 1048576 := Hj.out ▸ fold_args d i hil
 obtain ⟨ru', rq', he', hri⟩ := hrow.ints (by omega)
 cases he'
 have k4 : Below w4.heap.size w4 (w4.alloc (.cells #[.int .i64 j.op, .int .i64 j.w, .int .i64 j.a, .int .i64 j.b, .int .i64 j.c, .int .i64 j.imm, .slice ru j.args.length rq] 29)) := (Below.refl _ _).alloc (Nat.le_refl _) _
 have k5 : Below W3.heap.size W3 (w4.alloc (.cells #[.int .i64 j.op, .int .i64 j.w, .int .i64 j.a, .int .i64 j.b, .int .i64 j.c, .int .i64 j.imm, .slice ru j.args.length rq] 29)) := b4.trans (k4.mono b4.size)
 have QJ : Hid (At (w4.alloc (.cells #[.int .i64 j.op, .int .i64 j.w, .int .i64 j.a, .int .i64 j.b, .int .i64 j.c, .int .i64 j.imm, .slice ru j.args.length rq] 29)) w4.heap.size #[.int .i64 j.op, .int .i64 j.w, .int .i64 j.a, .int .i64 j.b, .int .i64 j.c, .int .i64 j.imm, .slice ru j.args.length rq] 29) := At.new _ _ _
 have RJ : Hid (IntsAt (w4.alloc (.cells #[.int .i64 j.op, .int .i64 j.w, .int .i64 j.a, .int .i64 j.b, .int .i64 j.c, .int .i64 j.imm, .slice ru j.args.length rq] 29)) W3.heap.size ru j.args) := hri.keep (agree_of_below k4 _)
 have QF5 : Hid (At (w4.alloc (.cells #[.int .i64 j.op, .int .i64 j.w, .int .i64 j.a, .int .i64 j.b, .int .i64 j.c, .int .i64 j.imm, .slice ru j.args.length rq] 29)) w2.heap.size #[.slice up d.params.length cp, .int .i64 d.ret, .slice ub d.blocks.length cb] 27) := QF3.out.below k5
 have QI5 : Hid (At (w4.alloc (.cells #[.int .i64 j.op, .int .i64 j.w, .int .i64 j.a, .int .i64 j.b, .int .i64 j.c, .int .i64 j.imm, .slice ru j.args.length rq] 29)) (w2.heap.size + 1) #[.int .i64 i.op, .int .i64 i.w, .int .i64 i.a, .int .i64 i.b, .int .i64 i.c, .int .i64 i.imm, .slice au i.args.length ac] 29) := QI3.out.below k5
 have B5 : Hid (Below w.heap.size w (w4.alloc (.cells #[.int .i64 j.op, .int .i64 j.w, .int .i64 j.a, .int .i64 j.b, .int .i64 j.c, .int .i64 j.imm, .slice ru j.args.length rq] 29))) := B3.out.trans (k5.mono B3.out.size)
 have P5 : Hid (IntsAt (w4.alloc (.cells #[.int .i64 j.op, .int .i64 j.w, .int .i64 j.a, .int .i64 j.b, .int .i64 j.c, .int .i64 j.imm, .slice ru j.args.length rq] 29)) w.heap.size up d.params) := P3.out.keep (agree_of_below k5 _)
 have K5 : Hid (BlocksAt (w4.alloc (.cells #[.int .i64 j.op, .int .i64 j.w, .int .i64 j.a, .int .i64 j.b, .int .i64 j.c, .int .i64 j.imm, .slice ru j.args.length rq] 29)) w.heap.size ub d.blocks) := K3.out.keep (agree_of_below k5 _)
 have A5 : Hid (IntsAt (w4.alloc (.cells #[.int .i64 j.op, .int .i64 j.w, .int .i64 j.a, .int .i64 j.b, .int .i64 j.c, .int .i64 j.imm, .slice ru j.args.length rq] 29)) w.heap.size au i.args) := A3.out.keep (agree_of_below k5 _)
 have hz4 : W3.heap.size ≤ w4.heap.size := b4.size
 have hz5 : (w4.alloc (.cells #[.int .i64 j.op, .int .i64 j.w, .int .i64 j.a, .int .i64 j.b, .int .i64 j.c, .int .i64 j.imm, .slice ru j.args.length rq] 29)).heap.size = w4.heap.size + 1 := by simp
 clear FI hrow hri k4 b4 k5 QF3 QI3 B3 P3 K3 A3 x0 x1 x2 y0 y1 y2 y3 y4 y5 y6
 obtain ⟨W5, hW5⟩ : ∃ W, (w4.alloc (.cells #[.int .i64 j.op, .int .i64 j.w, .int .i64 j.a, .int .i64 j.b, .int .i64 j.c, .int .i64 j.imm, .slice ru j.args.length rq] 29)) = W := ⟨_, rfl⟩
 rw [hW5] at QJ RJ QF5 QI5 B5 P5 K5 A5 hz5
 have D2 := drawConstOf a0 len cap W5 hl2 (HC.out.below B5.out)
 go_wp2_with fail
 try rw [hW5]
 clear hW5
 refine D2.mono ?_
 rintro e w6 ⟨d2, up2, ub2, cp2, cb2, n, rfl, hn1, hn2, hsm2, hone2, hin2, hbl2, b6⟩
 have k6 : Below w6.heap.size w6 (w6.alloc (.cells #[.slice up2 d2.params.length cp2, .int .i64 d2.ret, .slice ub2 d2.blocks.length cb2] 27)) := (Below.refl _ _).alloc (Nat.le_refl _) _
 have k7 : Below W5.heap.size W5 (w6.alloc (.cells #[.slice up2 d2.params.length cp2, .int .i64 d2.ret, .slice ub2 d2.blocks.length cb2] 27)) := b6.trans (k6.mono b6.size)
 have QG : Hid (At (w6.alloc (.cells #[.slice up2 d2.params.length cp2, .int .i64 d2.ret, .slice ub2 d2.blocks.length cb2] 27)) w6.heap.size #[.slice up2 d2.params.length cp2, .int .i64 d2.ret, .slice ub2 d2.blocks.length cb2] 27) := At.new _ _ _
 have KG : Hid (BlocksAt (w6.alloc (.cells #[.slice up2 d2.params.length cp2, .int .i64 d2.ret, .slice ub2 d2.blocks.length cb2] 27)) W5.heap.size ub2 d2.blocks) := hbl2.keep (agree_of_below k6 _)
 have QJ7 : Hid (At (w6.alloc (.cells #[.slice up2 d2.params.length cp2, .int .i64 d2.ret, .slice ub2 d2.blocks.length cb2] 27)) w4.heap.size #[.int .i64 j.op, .int .i64 j.w, .int .i64 j.a, .int .i64 j.b, .int .i64 j.c, .int .i64 j.imm, .slice ru j.args.length rq] 29) := QJ.out.below k7
 have RJ7 : Hid (IntsAt (w6.alloc (.cells #[.slice up2 d2.params.length cp2, .int .i64 d2.ret, .slice ub2 d2.blocks.length cb2] 27)) W3.heap.size ru j.args) := RJ.out.keep (agree_of_below k7 _)
 have QF7 : Hid (At (w6.alloc (.cells #[.slice up2 d2.params.length cp2, .int .i64 d2.ret, .slice ub2 d2.blocks.length cb2] 27)) w2.heap.size #[.slice up d.params.length cp, .int .i64 d.ret, .slice ub d.blocks.length cb] 27) := QF5.out.below k7
 have QI7 : Hid (At (w6.alloc (.cells #[.slice up2 d2.params.length cp2, .int .i64 d2.ret, .slice ub2 d2.blocks.length cb2] 27)) (w2.heap.size + 1) #[.int .i64 i.op, .int .i64 i.w, .int .i64 i.a, .int .i64 i.b, .int .i64 i.c, .int .i64 i.imm, .slice au i.args.length ac] 29) := QI5.out.below k7
 have B7 : Hid (Below w.heap.size w (w6.alloc (.cells #[.slice up2 d2.params.length cp2, .int .i64 d2.ret, .slice ub2 d2.blocks.length cb2] 27))) := B5.out.trans (k7.mono B5.out.size)
 have P7 : Hid (IntsAt (w6.alloc (.cells #[.slice up2 d2.params.length cp2, .int .i64 d2.ret, .slice ub2 d2.blocks.length cb2] 27)) w.heap.size up d.params) := P5.out.keep (agree_of_below k7 _)
 have K7 : Hid (BlocksAt (w6.alloc (.cells #[.slice up2 d2.params.length cp2, .int .i64 d2.ret, .slice ub2 d2.blocks.length cb2] 27)) w.heap.size ub d.blocks) := K5.out.keep (agree_of_below k7 _)
 have A7 : Hid (IntsAt (w6.alloc (.cells #[.slice up2 d2.params.length cp2, .int .i64 d2.ret, .slice ub2 d2.blocks.length cb2] 27)) w.heap.size au i.args) := A5.out.keep (agree_of_below k7 _)
 have Hsm2 : Hid (SmFunc d2) := hsm2
 have hz6 : W5.heap.size ≤ w6.heap.size := b6.size
 clear D2 k6 b6 k7 QJ RJ QF5 QI5 B5 P5 K5 A5 hin2 hbl2 hsm2 HC
 obtain ⟨W7, hW7⟩ : ∃ W, (w6.alloc (.cells #[.slice up2 d2.params.length cp2, .int .i64 d2.ret, .slice ub2 d2.blocks.length cb2] 27)) = W := ⟨_, rfl⟩
 rw [hW7] at QG KG QJ7 RJ7 QF7 QI7 B7 P7 K7 A7
 have x0 : W7.cell? ⟨w6.heap.size, 0, none⟩ = some (.slice up2 d2.params.length cp2) := QG.out.cell 0
 have x1 : W7.cell? ⟨w6.heap.size, 1, none⟩ = some (.int .i64 d2.ret) := QG.out.cell 1
 have x2 : W7.cell? ⟨w6.heap.size, 2, none⟩ = some (.slice ub2 d2.blocks.length cb2) := QG.out.cell 2
 have CI := constI_any W5.heap.size d2 up2 cp2 ub2 cb2 n W7 Hsm2.out KG.out hn2
 go_wp2_with fail
 try rw [hW7]
 clear hW7 x0 x1 x2
 refine CI.mono ?_
 rintro e w8 ⟨hct, b8⟩
 have CS := constS_any W5.heap.size d2 up2 cp2 ub2 cb2 n w8 Hsm2.out (KG.out.keep (agree_of_below b8 _)) hn2
 have QG8 : Hid (At w8 w6.heap.size #[.slice up2 d2.params.length cp2, .int .i64 d2.ret, .slice ub2 d2.blocks.length cb2] 27) := QG.out.below b8
 have QJ8 : Hid (At w8 w4.heap.size #[.int .i64 j.op, .int .i64 j.w, .int .i64 j.a, .int .i64 j.b, .int .i64 j.c, .int .i64 j.imm, .slice ru j.args.length rq] 29) := QJ7.out.below b8
 have RJ8 : Hid (IntsAt w8 W3.heap.size ru j.args) := RJ7.out.keep (agree_of_below b8 _)
 have QF8 : Hid (At w8 w2.heap.size #[.slice up d.params.length cp, .int .i64 d.ret, .slice ub d.blocks.length cb] 27) := QF7.out.below b8
 have QI8 : Hid (At w8 (w2.heap.size + 1) #[.int .i64 i.op, .int .i64 i.w, .int .i64 i.a, .int .i64 i.b, .int .i64 i.c, .int .i64 i.imm, .slice au i.args.length ac] 29) := QI7.out.below b8
 have B8 : Hid (Below w.heap.size w w8) := B7.out.trans (b8.mono B7.out.size)
 have P8 : Hid (IntsAt w8 w.heap.size up d.params) := P7.out.keep (agree_of_below b8 _)
 have K8 : Hid (BlocksAt w8 w.heap.size ub d.blocks) := K7.out.keep (agree_of_below b8 _)
 have A8 : Hid (IntsAt w8 w.heap.size au i.args) := A7.out.keep (agree_of_below b8 _)
 clear CI b8 QG KG QJ7 RJ7 QF7 QI7 B7 P7 K7 A7
 obtain ⟨cv, cb', hc1, hc2⟩ := const_pair hct
 subst hc1
 clear hct
 have x0 : w8.cell? ⟨w6.heap.size, 0, none⟩ = some (.slice up2 d2.params.length cp2) := QG8.out.cell 0
 have x1 : w8.cell? ⟨w6.heap.size, 1, none⟩ = some (.int .i64 d2.ret) := QG8.out.cell 1
 have x2 : w8.cell? ⟨w6.heap.size, 2, none⟩ = some (.slice ub2 d2.blocks.length cb2) := QG8.out.cell 2
 go_wp2_with fail
 clear x0 x1 x2
 refine CS.mono ?_
 rintro e w9 ⟨hct, b9⟩
 obtain rfl := hc2 _ hct
 have QJ9 : Hid (At w9 w4.heap.size #[.int .i64 j.op, .int .i64 j.w, .int .i64 j.a, .int .i64 j.b, .int .i64 j.c, .int .i64 j.imm, .slice ru j.args.length rq] 29) := QJ8.out.below b9
 have RJ9 : Hid (IntsAt w9 W3.heap.size ru j.args) := RJ8.out.keep (agree_of_below b9 _)
 have QF9 : Hid (At w9 w2.heap.size #[.slice up d.params.length cp, .int .i64 d.ret, .slice ub d.blocks.length cb] 27) := QF8.out.below b9
 have QI9 : Hid (At w9 (w2.heap.size + 1) #[.int .i64 i.op, .int .i64 i.w, .int .i64 i.a, .int .i64 i.b, .int .i64 i.c, .int .i64 i.imm, .slice au i.args.length ac] 29) := QI8.out.below b9
 have B9 : Hid (Below w.heap.size w w9) := B8.out.trans (b9.mono B8.out.size)
 have P9 : Hid (IntsAt w9 w.heap.size up d.params) := P8.out.keep (agree_of_below b9 _)
 have K9 : Hid (BlocksAt w9 w.heap.size ub d.blocks) := K8.out.keep (agree_of_below b9 _)
 have A9 : Hid (IntsAt w9 w.heap.size au i.args) := A8.out.keep (agree_of_below b9 _)
 clear CS b9 QG8 QJ8 RJ8 QF8 QI8 B8 P8 K8 A8 hct hc2
 have j0 : w9.cell? ⟨w4.heap.size, 0, none⟩ = some (.int .i64 j.op) := QJ9.out.cell 0
 have j1 : w9.cell? ⟨w4.heap.size, 1, none⟩ = some (.int .i64 j.w) := QJ9.out.cell 1
 have j2 : w9.cell? ⟨w4.heap.size, 2, none⟩ = some (.int .i64 j.a) := QJ9.out.cell 2
 have j3 : w9.cell? ⟨w4.heap.size, 3, none⟩ = some (.int .i64 j.b) := QJ9.out.cell 3
 have j4 : w9.cell? ⟨w4.heap.size, 4, none⟩ = some (.int .i64 j.c) := QJ9.out.cell 4
 have j5 : w9.cell? ⟨w4.heap.size, 5, none⟩ = some (.int .i64 j.imm) := QJ9.out.cell 5
 have j6 : w9.cell? ⟨w4.heap.size, 6, none⟩ = some (.slice ru j.args.length rq) := QJ9.out.cell 6
 have x0 : w9.cell? ⟨w2.heap.size, 0, none⟩ = some (.slice up d.params.length cp) := QF9.out.cell 0
 have x1 : w9.cell? ⟨w2.heap.size, 1, none⟩ = some (.int .i64 d.ret) := QF9.out.cell 1
 have x2 : w9.cell? ⟨w2.heap.size, 2, none⟩ = some (.slice ub d.blocks.length cb) := QF9.out.cell 2
 have y0 : w9.cell? ⟨(w2.heap.size + 1), 0, none⟩ = some (.int .i64 i.op) := QI9.out.cell 0
 have y1 : w9.cell? ⟨(w2.heap.size + 1), 1, none⟩ = some (.int .i64 i.w) := QI9.out.cell 1
 have y2 : w9.cell? ⟨(w2.heap.size + 1), 2, none⟩ = some (.int .i64 i.a) := QI9.out.cell 2
 have y3 : w9.cell? ⟨(w2.heap.size + 1), 3, none⟩ = some (.int .i64 i.b) := QI9.out.cell 3
 have y4 : w9.cell? ⟨(w2.heap.size + 1), 4, none⟩ = some (.int .i64 i.c) := QI9.out.cell 4
 have y5 : w9.cell? ⟨(w2.heap.size + 1), 5, none⟩ = some (.int .i64 i.imm) := QI9.out.cell 5
 have y6 : w9.cell? ⟨(w2.heap.size + 1), 6, none⟩ = some (.slice au i.args.length ac) := QI9.out.cell 6
 have b4l : w4.heap.size < w9.heap.size := QJ9.out.lt
 have b2l : w2.heap.size < w9.heap.size := QF9.out.lt
 have b3l : w2.heap.size + 1 < w9.heap.size := QI9.out.lt
 have FS := foldedS w.heap.size d i up cp ub cb au ac w9.drew Hsm.out (P9.out.keep (agree_of_below ((Below.refl w9.heap.size w9).drew) _)) (K9.out.keep (agree_of_below ((Below.refl w9.heap.size w9).drew) _)) (A9.out.keep (agree_of_below ((Below.refl w9.heap.size w9).drew) _)) hil
 rw [Hj.out] at FS
 have S0 : ∀ b o, b < w9.heap.size → w9.drew.cell? ⟨b, o, none⟩ = w9.cell? ⟨b, o, none⟩ := fun _ _ _ => rfl
 go_wp2_with fail
 go_region_held2 (fun w' => ∀ b o, b < w9.heap.size → w'.cell? ⟨b, o, none⟩ = w9.cell? ⟨b, o, none⟩) (first | with_reducible exact S0 | with_reducible exact S1 | with_reducible exact S2) (first | (go_at_call 12; refine FS.mono ?_; rintro e w10 ⟨⟨gu, gq, rfl, hgi⟩, b10⟩; have S1 : ∀ b o, b < w9.heap.size → w10.cell? ⟨b, o, none⟩ = w9.cell? ⟨b, o, none⟩ := (fun b o hb => cell_block (b10.block b hb)); have SM := sameInstL W3.heap.size w9.heap.size j ru rq gu gq w10 hjl (RJ9.out.keep (agree_of_below b10 _)) hgi) | (go_at_call 11; refine SM.mono ?_; rintro e w11 ⟨rfl, b11⟩; have b12 : Below w9.heap.size w9 w11 := ((Below.refl w9.heap.size w9).drew).trans (b10.trans (b11.mono b10.size)); have S2 : ∀ b o, b < w9.heap.size → w11.cell? ⟨b, o, none⟩ = w9.cell? ⟨b, o, none⟩ := (fun b o hb => cell_block (b12.block b hb))))
 all_goals
  clear S0 S1 S2 FS SM b10 b11 hgi j0 j1 j2 j3 j4 j5 j6 x0 x1 x2 y0 y1 y2 y3 y4 y5 y6
  have QJa : Hid (At w11 w4.heap.size #[.int .i64 j.op, .int .i64 j.w, .int .i64 j.a, .int .i64 j.b, .int .i64 j.c, .int .i64 j.imm, .slice ru j.args.length rq] 29) := QJ9.out.below b12
  have QIa : Hid (At w11 (w2.heap.size + 1) #[.int .i64 i.op, .int .i64 i.w, .int .i64 i.a, .int .i64 i.b, .int .i64 i.c, .int .i64 i.imm, .slice au i.args.length ac] 29) := QI9.out.below b12
  have RJa : Hid (IntsAt w11 W3.heap.size ru j.args) := RJ9.out.keep (agree_of_below b12 _)
  have Aa : Hid (IntsAt w11 w.heap.size au i.args) := A9.out.keep (agree_of_below b12 _)
  have Ba : Hid (Below w.heap.size w w11) := B9.out.trans (b12.mono B9.out.size)
  clear QJ9 QI9 QF9 RJ9 A9 B9 P9 K9 b12 b4l b2l b3l
  have j0 : w11.cell? ⟨w4.heap.size, 0, none⟩ = some (.int .i64 j.op) := QJa.out.cell 0
  have j1 : w11.cell? ⟨w4.heap.size, 1, none⟩ = some (.int .i64 j.w) := QJa.out.cell 1
  have j2 : w11.cell? ⟨w4.heap.size, 2, none⟩ = some (.int .i64 j.a) := QJa.out.cell 2
  have j3 : w11.cell? ⟨w4.heap.size, 3, none⟩ = some (.int .i64 j.b) := QJa.out.cell 3
  have j4 : w11.cell? ⟨w4.heap.size, 4, none⟩ = some (.int .i64 j.c) := QJa.out.cell 4
  have j5 : w11.cell? ⟨w4.heap.size, 5, none⟩ = some (.int .i64 j.imm) := QJa.out.cell 5
  have j6 : w11.cell? ⟨w4.heap.size, 6, none⟩ = some (.slice ru j.args.length rq) := QJa.out.cell 6
  have y0 : w11.cell? ⟨(w2.heap.size + 1), 0, none⟩ = some (.int .i64 i.op) := QIa.out.cell 0
  have y1 : w11.cell? ⟨(w2.heap.size + 1), 1, none⟩ = some (.int .i64 i.w) := QIa.out.cell 1
  have y2 : w11.cell? ⟨(w2.heap.size + 1), 2, none⟩ = some (.int .i64 i.a) := QIa.out.cell 2
  have y3 : w11.cell? ⟨(w2.heap.size + 1), 3, none⟩ = some (.int .i64 i.b) := QIa.out.cell 3
  have y4 : w11.cell? ⟨(w2.heap.size + 1), 4, none⟩ = some (.int .i64 i.c) := QIa.out.cell 4
  have y5 : w11.cell? ⟨(w2.heap.size + 1), 5, none⟩ = some (.int .i64 i.imm) := QIa.out.cell 5
  have y6 : w11.cell? ⟨(w2.heap.size + 1), 6, none⟩ = some (.slice au i.args.length ac) := QIa.out.cell 6
  by_cases h21 : j.op = 21
  ·have e1 : (j.op == 21) = true := by simpa using h21
   go_wp2_with fail
   go_ret
   exact ⟨rfl, Ba.out⟩
  have e1 : (j.op == 21) = false := by simpa using h21
  by_cases h27 : j.op = 27
  ·have e2 : (j.op == 27) = true := by simpa using h27
   go_wp2_with fail
   go_ret
   exact ⟨rfl, Ba.out⟩
  have e2 : (j.op == 27) = false := by simpa using h27
  have hfc := fold_cases d i
  rw [Hj.out] at hfc
  rcases hfc with h | h | h | h
  ·exact absurd h.1 h21
  ·exact absurd h.1 h27
  ·have SM := sameInstL W3.heap.size w.heap.size j ru rq au ac w11 hjl RJa.out (h ▸ Aa.out)
   subst h
   go_wp2_with (first | (go_at_call 11; refine SM.mono ?_; rintro e w12 ⟨rfl, b13⟩))
   go_ret
   exact ⟨rfl, Ba.out.trans (b13.mono Ba.out.size)⟩
  ·have SM := sameZeroL i ru rq au ac w11
   subst h
   have e3 : ((zeroI.op : Int) == 0) = true := rfl
   dsimp only [zeroI] at *
   go_wp2_with fail
   refine SM.mono ?_
   rintro e w12 ⟨⟨b, rfl⟩, b13⟩
   have z0 : w12.cell? ⟨w4.heap.size, 0, none⟩ = some (.int .i64 0) := (cell_block (b13.block _ QJa.out.lt)).trans j0
   cases b
   all_goals
    go_wp2_with fail
    go_ret
    exact ⟨rfl, Ba.out.trans (b13.mono Ba.out.size)⟩
end Go.Proofs.YtoknhppjdmoblaaGreatDoor
