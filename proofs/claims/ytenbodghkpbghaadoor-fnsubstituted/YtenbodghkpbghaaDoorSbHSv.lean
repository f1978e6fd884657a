import Derived.Test.YtenbodghkpbghaaDoorMkHSv
namespace Go.Proofs.YtenbodghkpbghaaDoor
open Go.RowKit
set_option linter.unusedVariables false
set_option linter.unusedSimpArgs false
theorem copyO (lo : Nat) (a : Option Addr) (cap : Nat) (l : List Int) (w : World) (hl : l.length ≤ 1048576) (hv : IntsAt w lo a l) :
  Calls Tryd.prog 79 #[.slice a l.length cap] w fun e w' => ∃ u c, e = .returned (.slice u l.length c) ∧ OwnI w' w.heap.size w'.heap.size u l ∧ Below w.heap.size w w' := by
 refine (copyS_any lo a cap l w hl hv).mono ?_
 rintro e w' ⟨u, c, rfl, ho, hb⟩
 exact ⟨u, c, rfl, OwnI.of_at ho hl, hb⟩
set_option maxHeartbeats 4000000 in
set_option maxRecDepth 100000 in
theorem copyInstO (lo : Nat) (p : InstD) (iu : Option Addr) (iq : Nat) (w : World) (hm : p.args.length ≤ 1000) (hk : IntsAt w lo iu p.args) :
  Calls Tryd.prog 81 #[.agg #[.int .i64 p.op, .int .i64 p.w, .int .i64 p.a, .int .i64 p.b, .int .i64 p.c, .int .i64 p.imm, .slice iu p.args.length iq]] w fun e w' => ∃ ru rc, e = .returned (.agg #[.int .i64 p.op, .int .i64 p.w, .int .i64 p.a, .int .i64 p.b, .int .i64 p.c, .int .i64 p.imm, .slice ru p.args.length rc]) ∧ OwnI w' w.heap.size w'.heap.size ru p.args ∧ Below w.heap.size w w' := by
 have b0 : Below w.heap.size w ((w.alloc (.cells #[.int .i64 p.op, .int .i64 p.w, .int .i64 p.a, .int .i64 p.b, .int .i64 p.c, .int .i64 p.imm, .slice iu p.args.length iq] 44)).alloc (.cells #[.int .i64 0, .int .i64 0, .int .i64 0, .int .i64 0, .int .i64 0, .int .i64 0, .slice none 0 0] 44)) := ((Below.refl _ _).alloc (Nat.le_refl _) _).alloc (by simp) _
 have A0 : At ((w.alloc (.cells #[.int .i64 p.op, .int .i64 p.w, .int .i64 p.a, .int .i64 p.b, .int .i64 p.c, .int .i64 p.imm, .slice iu p.args.length iq] 44)).alloc (.cells #[.int .i64 0, .int .i64 0, .int .i64 0, .int .i64 0, .int .i64 0, .int .i64 0, .slice none 0 0] 44)) w.heap.size #[.int .i64 p.op, .int .i64 p.w, .int .i64 p.a, .int .i64 p.b, .int .i64 p.c, .int .i64 p.imm, .slice iu p.args.length iq] 44 := (Below.heap_alloc _ _ _ (by simp)).trans (heap_alloc_last _ _)
 have HA : Hid (At ((w.alloc (.cells #[.int .i64 p.op, .int .i64 p.w, .int .i64 p.a, .int .i64 p.b, .int .i64 p.c, .int .i64 p.imm, .slice iu p.args.length iq] 44)).alloc (.cells #[.int .i64 0, .int .i64 0, .int .i64 0, .int .i64 0, .int .i64 0, .int .i64 0, .slice none 0 0] 44)) w.heap.size #[.int .i64 p.op, .int .i64 p.w, .int .i64 p.a, .int .i64 p.b, .int .i64 p.c, .int .i64 p.imm, .slice iu p.args.length iq] 44) := A0
 have HZ : Hid (At ((w.alloc (.cells #[.int .i64 p.op, .int .i64 p.w, .int .i64 p.a, .int .i64 p.b, .int .i64 p.c, .int .i64 p.imm, .slice iu p.args.length iq] 44)).alloc (.cells #[.int .i64 0, .int .i64 0, .int .i64 0, .int .i64 0, .int .i64 0, .int .i64 0, .slice none 0 0] 44)) (w.heap.size + 1) #[.int .i64 0, .int .i64 0, .int .i64 0, .int .i64 0, .int .i64 0, .int .i64 0, .slice none 0 0] 44) := heap_two2 _ _ _
 have H0 : Hid (Below w.heap.size w ((w.alloc (.cells #[.int .i64 p.op, .int .i64 p.w, .int .i64 p.a, .int .i64 p.b, .int .i64 p.c, .int .i64 p.imm, .slice iu p.args.length iq] 44)).alloc (.cells #[.int .i64 0, .int .i64 0, .int .i64 0, .int .i64 0, .int .i64 0, .int .i64 0, .slice none 0 0] 44))) := b0
 have hz : (((w.alloc (.cells #[.int .i64 p.op, .int .i64 p.w, .int .i64 p.a, .int .i64 p.b, .int .i64 p.c, .int .i64 p.imm, .slice iu p.args.length iq] 44)).alloc (.cells #[.int .i64 0, .int .i64 0, .int .i64 0, .int .i64 0, .int .i64 0, .int .i64 0, .slice none 0 0] 44))).heap.size = w.heap.size + 2 := by simp
 have P := copyO lo iu iq p.args ((w.alloc (.cells #[.int .i64 p.op, .int .i64 p.w, .int .i64 p.a, .int .i64 p.b, .int .i64 p.c, .int .i64 p.imm, .slice iu p.args.length iq] 44)).alloc (.cells #[.int .i64 0, .int .i64 0, .int .i64 0, .int .i64 0, .int .i64 0, .int .i64 0, .slice none 0 0] 44)) (by omega) (hk.keep (agree_of_below b0 lo))
 have x6 : (((w.alloc (.cells #[.int .i64 p.op, .int .i64 p.w, .int .i64 p.a, .int .i64 p.b, .int .i64 p.c, .int .i64 p.imm, .slice iu p.args.length iq] 44)).alloc (.cells #[.int .i64 0, .int .i64 0, .int .i64 0, .int .i64 0, .int .i64 0, .int .i64 0, .slice none 0 0] 44))).cell? ⟨w.heap.size, 6, none⟩ = some (.slice iu p.args.length iq) := A0.cell 6
 clear b0 A0 hk
 go_enter Tryd.func81, Tryd.ntmps81
 go_upto_region 1 with fail
 generalize ((w.alloc (.cells #[.int .i64 p.op, .int .i64 p.w, .int .i64 p.a, .int .i64 p.b, .int .i64 p.c, .int .i64 p.imm, .slice iu p.args.length iq] 44)).alloc (.cells #[.int .i64 0, .int .i64 0, .int .i64 0, .int .i64 0, .int .i64 0, .int .i64 0, .slice none 0 0] 44)) = W1 at *
 go_wp2_with fail
 refine P.mono ?_
 rintro e w2 ⟨ru, rc, rfl, hown, b2⟩
 clear P x6
 have HA2 : Hid (At w2 w.heap.size #[.int .i64 p.op, .int .i64 p.w, .int .i64 p.a, .int .i64 p.b, .int .i64 p.c, .int .i64 p.imm, .slice iu p.args.length iq] 44) := HA.out.below b2
 have HZ2 : Hid (At w2 (w.heap.size + 1) #[.int .i64 0, .int .i64 0, .int .i64 0, .int .i64 0, .int .i64 0, .int .i64 0, .slice none 0 0] 44) := HZ.out.below b2
 have HB2 : Hid (Below w.heap.size w w2) := H0.out.trans (b2.mono (by omega))
 have HO2 : Hid (OwnI w2 (w.heap.size + 2) w2.heap.size ru p.args) := by rw [hz] at hown; exact hown
 clear b2 hown H0 HA HZ hz
 have c6 : w2.cell? ⟨w.heap.size, 6, none⟩ = some (.slice iu p.args.length iq) := HA2.out.cell 6
 have cf : w2.frozen? ⟨w.heap.size, 6, none⟩ = false := froz_of_heap HA2.out
 have HA3 : Hid (At (w2.setCell ⟨w.heap.size, 6, none⟩ (.slice ru p.args.length rc)) w.heap.size #[.int .i64 p.op, .int .i64 p.w, .int .i64 p.a, .int .i64 p.b, .int .i64 p.c, .int .i64 p.imm, .slice ru p.args.length rc] 44) := heap_set (o := 6) HA2.out
 have HZ3 : Hid (At (w2.setCell ⟨w.heap.size, 6, none⟩ (.slice ru p.args.length rc)) (w.heap.size + 1) #[.int .i64 0, .int .i64 0, .int .i64 0, .int .i64 0, .int .i64 0, .int .i64 0, .slice none 0 0] 44) := HZ2.out.setOther (by omega)
 have HB3 : Hid (Below w.heap.size w (w2.setCell ⟨w.heap.size, 6, none⟩ (.slice ru p.args.length rc))) := HB2.out.setCell (by dsimp only; omega) _
 have HO3 : Hid (OwnI (w2.setCell ⟨w.heap.size, 6, none⟩ (.slice ru p.args.length rc)) (w.heap.size + 2) w2.heap.size ru p.args) := HO2.out.still (Still.set (k := 2) HA2.out (by decide)) (by decide)
 have hz3 : w2.heap.size ≤ (w2.setCell ⟨w.heap.size, 6, none⟩ (.slice ru p.args.length rc)).heap.size := by simp only [World.size_setCell]; exact Nat.le_refl _
 clear HA2 HZ2 HB2 HO2
 go_upto_region 2 with fail
 clear c6 cf
 generalize (w2.setCell ⟨w.heap.size, 6, none⟩ (.slice ru p.args.length rc)) = w3 at *
 generalize w2.heap.size = m at *
 clear w2
 have x0 : w3.cell? ⟨w.heap.size, 0, none⟩ = some (.int .i64 p.op) := HA3.out.cell 0
 have r0 : w3.cell? ⟨w.heap.size + 1, 0, none⟩ = some (.int .i64 0) := HZ3.out.cell 0
 have x1 : w3.cell? ⟨w.heap.size, 1, none⟩ = some (.int .i64 p.w) := HA3.out.cell 1
 have r1 : w3.cell? ⟨w.heap.size + 1, 1, none⟩ = some (.int .i64 0) := HZ3.out.cell 1
 have x2 : w3.cell? ⟨w.heap.size, 2, none⟩ = some (.int .i64 p.a) := HA3.out.cell 2
 have r2 : w3.cell? ⟨w.heap.size + 1, 2, none⟩ = some (.int .i64 0) := HZ3.out.cell 2
 have x3 : w3.cell? ⟨w.heap.size, 3, none⟩ = some (.int .i64 p.b) := HA3.out.cell 3
 have r3 : w3.cell? ⟨w.heap.size + 1, 3, none⟩ = some (.int .i64 0) := HZ3.out.cell 3
 have x4 : w3.cell? ⟨w.heap.size, 4, none⟩ = some (.int .i64 p.c) := HA3.out.cell 4
 have r4 : w3.cell? ⟨w.heap.size + 1, 4, none⟩ = some (.int .i64 0) := HZ3.out.cell 4
 have x5 : w3.cell? ⟨w.heap.size, 5, none⟩ = some (.int .i64 p.imm) := HA3.out.cell 5
 have r5 : w3.cell? ⟨w.heap.size + 1, 5, none⟩ = some (.int .i64 0) := HZ3.out.cell 5
 have x6 : w3.cell? ⟨w.heap.size, 6, none⟩ = some (.slice ru p.args.length rc) := HA3.out.cell 6
 have r6 : w3.cell? ⟨w.heap.size + 1, 6, none⟩ = some (.slice none 0 0) := HZ3.out.cell 6
 have rf : ∀ o, w3.frozen? ⟨w.heap.size + 1, o, none⟩ = false := fun o => froz_of_heap HZ3.out
 go_wp2_with fail
 have hr := (heap_set (o := 6) (v := .slice ru p.args.length rc) (heap_set (o := 5) (v := .int .i64 p.imm) (heap_set (o := 4) (v := .int .i64 p.c) (heap_set (o := 3) (v := .int .i64 p.b) (heap_set (o := 2) (v := .int .i64 p.a) (heap_set (o := 1) (v := .int .i64 p.w) (heap_set (o := 0) (v := .int .i64 p.op) HZ3.out)))))))
 have BB : Below w.heap.size w (((((((w3.setCell ⟨w.heap.size + 1, 0, none⟩ (.int .i64 p.op)).setCell ⟨w.heap.size + 1, 1, none⟩ (.int .i64 p.w)).setCell ⟨w.heap.size + 1, 2, none⟩ (.int .i64 p.a)).setCell ⟨w.heap.size + 1, 3, none⟩ (.int .i64 p.b)).setCell ⟨w.heap.size + 1, 4, none⟩ (.int .i64 p.c)).setCell ⟨w.heap.size + 1, 5, none⟩ (.int .i64 p.imm)).setCell ⟨w.heap.size + 1, 6, none⟩ (.slice ru p.args.length rc)) := ((((((((((((((HB3.out).setCell (by dsimp only; omega) _)).setCell (by dsimp only; omega) _)).setCell (by dsimp only; omega) _)).setCell (by dsimp only; omega) _)).setCell (by dsimp only; omega) _)).setCell (by dsimp only; omega) _)).setCell (by dsimp only; omega) _)
 have hzr : w3.heap.size ≤ ((((((((w3.setCell ⟨w.heap.size + 1, 0, none⟩ (.int .i64 p.op)).setCell ⟨w.heap.size + 1, 1, none⟩ (.int .i64 p.w)).setCell ⟨w.heap.size + 1, 2, none⟩ (.int .i64 p.a)).setCell ⟨w.heap.size + 1, 3, none⟩ (.int .i64 p.b)).setCell ⟨w.heap.size + 1, 4, none⟩ (.int .i64 p.c)).setCell ⟨w.heap.size + 1, 5, none⟩ (.int .i64 p.imm)).setCell ⟨w.heap.size + 1, 6, none⟩ (.slice ru p.args.length rc))).heap.size := by simp only [World.size_setCell]; exact Nat.le_refl _
 have SS : Still 2 w3 (((((((w3.setCell ⟨w.heap.size + 1, 0, none⟩ (.int .i64 p.op)).setCell ⟨w.heap.size + 1, 1, none⟩ (.int .i64 p.w)).setCell ⟨w.heap.size + 1, 2, none⟩ (.int .i64 p.a)).setCell ⟨w.heap.size + 1, 3, none⟩ (.int .i64 p.b)).setCell ⟨w.heap.size + 1, 4, none⟩ (.int .i64 p.c)).setCell ⟨w.heap.size + 1, 5, none⟩ (.int .i64 p.imm)).setCell ⟨w.heap.size + 1, 6, none⟩ (.slice ru p.args.length rc)) := (Still.trans (Still.set (k := 2) (o := 0) (v := .int .i64 p.op) HZ3.out (by decide)) (Still.trans (Still.set (k := 2) (o := 1) (v := .int .i64 p.w) (heap_set (o := 0) (v := .int .i64 p.op) HZ3.out) (by decide)) (Still.trans (Still.set (k := 2) (o := 2) (v := .int .i64 p.a) (heap_set (o := 1) (v := .int .i64 p.w) (heap_set (o := 0) (v := .int .i64 p.op) HZ3.out)) (by decide)) (Still.trans (Still.set (k := 2) (o := 3) (v := .int .i64 p.b) (heap_set (o := 2) (v := .int .i64 p.a) (heap_set (o := 1) (v := .int .i64 p.w) (heap_set (o := 0) (v := .int .i64 p.op) HZ3.out))) (by decide)) (Still.trans (Still.set (k := 2) (o := 4) (v := .int .i64 p.c) (heap_set (o := 3) (v := .int .i64 p.b) (heap_set (o := 2) (v := .int .i64 p.a) (heap_set (o := 1) (v := .int .i64 p.w) (heap_set (o := 0) (v := .int .i64 p.op) HZ3.out)))) (by decide)) (Still.trans (Still.set (k := 2) (o := 5) (v := .int .i64 p.imm) (heap_set (o := 4) (v := .int .i64 p.c) (heap_set (o := 3) (v := .int .i64 p.b) (heap_set (o := 2) (v := .int .i64 p.a) (heap_set (o := 1) (v := .int .i64 p.w) (heap_set (o := 0) (v := .int .i64 p.op) HZ3.out))))) (by decide)) (Still.set (k := 2) (o := 6) (v := .slice ru p.args.length rc) (heap_set (o := 5) (v := .int .i64 p.imm) (heap_set (o := 4) (v := .int .i64 p.c) (heap_set (o := 3) (v := .int .i64 p.b) (heap_set (o := 2) (v := .int .i64 p.a) (heap_set (o := 1) (v := .int .i64 p.w) (heap_set (o := 0) (v := .int .i64 p.op) HZ3.out)))))) (by decide))))))))
 generalize (((((((w3.setCell ⟨w.heap.size + 1, 0, none⟩ (.int .i64 p.op)).setCell ⟨w.heap.size + 1, 1, none⟩ (.int .i64 p.w)).setCell ⟨w.heap.size + 1, 2, none⟩ (.int .i64 p.a)).setCell ⟨w.heap.size + 1, 3, none⟩ (.int .i64 p.b)).setCell ⟨w.heap.size + 1, 4, none⟩ (.int .i64 p.c)).setCell ⟨w.heap.size + 1, 5, none⟩ (.int .i64 p.imm)).setCell ⟨w.heap.size + 1, 6, none⟩ (.slice ru p.args.length rc)) = W9 at *
 exact bodyPost_ret (v := .agg #[.int .i64 p.op, .int .i64 p.w, .int .i64 p.a, .int .i64 p.b, .int .i64 p.c, .int .i64 p.imm, .slice ru p.args.length rc]) ((results_cell_row Tryd.results81 _ _ (w.heap.size + 1) 44 _ (0, 0) _ rfl hr Tryd.underlying44 rfl (by kernel_rfl)).trans (by rfl)) rfl ⟨ru, rc, rfl, (HO3.out.still SS (by decide)).wide (by omega) (by omega), BB⟩
theorem take_one {α : Type} (z : α) (l : List α) (j : Nat) (h : j < l.length) : l.take (j + 1) = l.take j ++ [l.getD j z] := by
 rw [List.take_succ_eq_append_getElem h]
 simp [List.getD, h]
set_option maxHeartbeats 8000000 in
set_option maxRecDepth 100000 in
theorem copyBlkS (lo : Nat) (d : BlockD) (u0 : Option Addr) (c0 : Nat) (u1 : Option Addr) (c1 : Nat) (w : World) (m0 : PhisAt w lo u0 d.phis) (m1 : InstsAt w lo u1 d.insts) (hd : OkBk d) :
  Calls Tryd.prog 80 #[.agg #[.slice u0 d.phis.length c0, .slice u1 d.insts.length c1, .int .i64 d.term.kind, .int .i64 d.term.a, .int .i64 d.term.x, .int .i64 d.term.y]] w fun e w' => ∃ b : BkE, b.d = d ∧ e = .returned (.agg #[.slice b.pu b.ps.length b.pc, .slice b.iu b.is.length b.ic, .int .i64 b.t.kind, .int .i64 b.t.a, .int .i64 b.t.x, .int .i64 b.t.y]) ∧ OwnBk w' w.heap.size w'.heap.size b ∧ Below w.heap.size w w' := by
 have HD : Hid (OkBk d) := hd
 have b0 : Below w.heap.size w ((w.alloc (.cells #[.slice u0 d.phis.length c0, .slice u1 d.insts.length c1, .int .i64 d.term.kind, .int .i64 d.term.a, .int .i64 d.term.x, .int .i64 d.term.y] 41)).alloc (.cells #[.slice none 0 0, .slice none 0 0, .int .i64 0, .int .i64 0, .int .i64 0, .int .i64 0] 41)) := ((Below.refl _ _).alloc (Nat.le_refl _) _).alloc (by simp) _
 have A0 : At ((w.alloc (.cells #[.slice u0 d.phis.length c0, .slice u1 d.insts.length c1, .int .i64 d.term.kind, .int .i64 d.term.a, .int .i64 d.term.x, .int .i64 d.term.y] 41)).alloc (.cells #[.slice none 0 0, .slice none 0 0, .int .i64 0, .int .i64 0, .int .i64 0, .int .i64 0] 41)) w.heap.size #[.slice u0 d.phis.length c0, .slice u1 d.insts.length c1, .int .i64 d.term.kind, .int .i64 d.term.a, .int .i64 d.term.x, .int .i64 d.term.y] 41 := (Below.heap_alloc _ _ _ (by simp)).trans (heap_alloc_last _ _)
 have H0 : Hid (Below w.heap.size w ((w.alloc (.cells #[.slice u0 d.phis.length c0, .slice u1 d.insts.length c1, .int .i64 d.term.kind, .int .i64 d.term.a, .int .i64 d.term.x, .int .i64 d.term.y] 41)).alloc (.cells #[.slice none 0 0, .slice none 0 0, .int .i64 0, .int .i64 0, .int .i64 0, .int .i64 0] 41))) := b0
 have HA : Hid (At ((w.alloc (.cells #[.slice u0 d.phis.length c0, .slice u1 d.insts.length c1, .int .i64 d.term.kind, .int .i64 d.term.a, .int .i64 d.term.x, .int .i64 d.term.y] 41)).alloc (.cells #[.slice none 0 0, .slice none 0 0, .int .i64 0, .int .i64 0, .int .i64 0, .int .i64 0] 41)) w.heap.size #[.slice u0 d.phis.length c0, .slice u1 d.insts.length c1, .int .i64 d.term.kind, .int .i64 d.term.a, .int .i64 d.term.x, .int .i64 d.term.y] 41) := A0
 have HZ : Hid (At ((w.alloc (.cells #[.slice u0 d.phis.length c0, .slice u1 d.insts.length c1, .int .i64 d.term.kind, .int .i64 d.term.a, .int .i64 d.term.x, .int .i64 d.term.y] 41)).alloc (.cells #[.slice none 0 0, .slice none 0 0, .int .i64 0, .int .i64 0, .int .i64 0, .int .i64 0] 41)) (w.heap.size + 1) #[.slice none 0 0, .slice none 0 0, .int .i64 0, .int .i64 0, .int .i64 0, .int .i64 0] 41) := heap_two2 _ _ _
 have hz : (((w.alloc (.cells #[.slice u0 d.phis.length c0, .slice u1 d.insts.length c1, .int .i64 d.term.kind, .int .i64 d.term.a, .int .i64 d.term.x, .int .i64 d.term.y] 41)).alloc (.cells #[.slice none 0 0, .slice none 0 0, .int .i64 0, .int .i64 0, .int .i64 0, .int .i64 0] 41))).heap.size = w.heap.size + 2 := by simp
 have x2 : (((w.alloc (.cells #[.slice u0 d.phis.length c0, .slice u1 d.insts.length c1, .int .i64 d.term.kind, .int .i64 d.term.a, .int .i64 d.term.x, .int .i64 d.term.y] 41)).alloc (.cells #[.slice none 0 0, .slice none 0 0, .int .i64 0, .int .i64 0, .int .i64 0, .int .i64 0] 41))).cell? ⟨w.heap.size, 2, none⟩ = some (.int .i64 d.term.kind) := A0.cell 2
 have x3 : (((w.alloc (.cells #[.slice u0 d.phis.length c0, .slice u1 d.insts.length c1, .int .i64 d.term.kind, .int .i64 d.term.a, .int .i64 d.term.x, .int .i64 d.term.y] 41)).alloc (.cells #[.slice none 0 0, .slice none 0 0, .int .i64 0, .int .i64 0, .int .i64 0, .int .i64 0] 41))).cell? ⟨w.heap.size, 3, none⟩ = some (.int .i64 d.term.a) := A0.cell 3
 have x4 : (((w.alloc (.cells #[.slice u0 d.phis.length c0, .slice u1 d.insts.length c1, .int .i64 d.term.kind, .int .i64 d.term.a, .int .i64 d.term.x, .int .i64 d.term.y] 41)).alloc (.cells #[.slice none 0 0, .slice none 0 0, .int .i64 0, .int .i64 0, .int .i64 0, .int .i64 0] 41))).cell? ⟨w.heap.size, 4, none⟩ = some (.int .i64 d.term.x) := A0.cell 4
 have x5 : (((w.alloc (.cells #[.slice u0 d.phis.length c0, .slice u1 d.insts.length c1, .int .i64 d.term.kind, .int .i64 d.term.a, .int .i64 d.term.x, .int .i64 d.term.y] 41)).alloc (.cells #[.slice none 0 0, .slice none 0 0, .int .i64 0, .int .i64 0, .int .i64 0, .int .i64 0] 41))).cell? ⟨w.heap.size, 5, none⟩ = some (.int .i64 d.term.y) := A0.cell 5
 clear b0 A0 hd
 go_enter Tryd.func80, Tryd.ntmps80
 go_upto_region 1 with fail
 generalize ((w.alloc (.cells #[.slice u0 d.phis.length c0, .slice u1 d.insts.length c1, .int .i64 d.term.kind, .int .i64 d.term.a, .int .i64 d.term.x, .int .i64 d.term.y] 41)).alloc (.cells #[.slice none 0 0, .slice none 0 0, .int .i64 0, .int .i64 0, .int .i64 0, .int .i64 0] 41)) = W1 at *
 go_upto_region 2 with fail
 have b3 : Below W1.heap.size W1 (W1.alloc (.cells #[.slice none 0 0, .slice none 0 0, .int .i64 d.term.kind, .int .i64 d.term.a, .int .i64 d.term.x, .int .i64 d.term.y] 41)) := (Below.refl _ _).alloc (Nat.le_refl _) _
 have HS3 : Hid (SSt w (W1.alloc (.cells #[.slice none 0 0, .slice none 0 0, .int .i64 d.term.kind, .int .i64 d.term.a, .int .i64 d.term.x, .int .i64 d.term.y] 41)) W1.heap.size 41 #[.slice u0 d.phis.length c0, .slice u1 d.insts.length c1, .int .i64 d.term.kind, .int .i64 d.term.a, .int .i64 d.term.x, .int .i64 d.term.y] #[.slice none 0 0, .slice none 0 0, .int .i64 d.term.kind, .int .i64 d.term.a, .int .i64 d.term.x, .int .i64 d.term.y] #[.slice none 0 0, .slice none 0 0, .int .i64 0, .int .i64 0, .int .i64 0, .int .i64 0]) := ⟨HA.out.below b3, HZ.out.below b3, At.new _ _ _, H0.out.trans (b3.mono (by omega)), by omega⟩
 have hX3 : W1.heap.size + 1 ≤ (W1.alloc (.cells #[.slice none 0 0, .slice none 0 0, .int .i64 d.term.kind, .int .i64 d.term.a, .int .i64 d.term.x, .int .i64 d.term.y] 41)).heap.size := by simp
 rw [hz] at HS3 hX3
 clear b3 H0 HA HZ x2 x3 x4 x5
 generalize (W1.alloc (.cells #[.slice none 0 0, .slice none 0 0, .int .i64 d.term.kind, .int .i64 d.term.a, .int .i64 d.term.x, .int .i64 d.term.y] 41)) = W3 at *
 obtain ⟨X, hX⟩ : ∃ X, w.heap.size + 2 = X := ⟨_, rfl⟩
 rw [hX] at HS3 hX3
 try rw [hX]
 clear hz hX
 have SP : Hid (∀ (W : World) (CS : Array Value), SSt w W X 41 #[.slice u0 d.phis.length c0, .slice u1 d.insts.length c1, .int .i64 d.term.kind, .int .i64 d.term.a, .int .i64 d.term.x, .int .i64 d.term.y] CS #[.slice none 0 0, .slice none 0 0, .int .i64 0, .int .i64 0, .int .i64 0, .int .i64 0] → W.cell? ⟨w.heap.size, 0, none⟩ = some (.slice u0 d.phis.length c0) ∧ W.cell? ⟨w.heap.size, 1, none⟩ = some (.slice u1 d.insts.length c1)) := fun W CS h => ⟨h.par.cell 0, h.par.cell 1⟩
 go_wp2_with fail
 go_loopw [4] (fun i wr => ∃ (j : Nat) (v : Value) (es : List PhE), j ≤ d.phis.length ∧ i = .int .i64 j ∧ Hid (es.length = j) ∧ Hid (es.map (·.1) = d.phis.take j) ∧ Hid (SSt w wr X 41 #[.slice u0 d.phis.length c0, .slice u1 d.insts.length c1, .int .i64 d.term.kind, .int .i64 d.term.a, .int .i64 d.term.x, .int .i64 d.term.y] #[v, .slice none 0 0, .int .i64 d.term.kind, .int .i64 d.term.a, .int .i64 d.term.x, .int .i64 d.term.y] #[.slice none 0 0, .slice none 0 0, .int .i64 0, .int .i64 0, .int .i64 0, .int .i64 0]) ∧ Hid (RowS 89 2 phC wr (X + 1) v es) ∧ Hid (Sub OwnPhE wr (X + 1) wr.heap.size es)) (fun i _ => d.phis.length - (intOf i).toNat)
 case atStart => exact ⟨0, _, [], by omega, rfl, rfl, rfl, HS3.out, RowS.nil _ _ _ _ _, hX3⟩
 case round =>
  clear HS3 hX3
  obtain ⟨j, v, es, hj, rfl, hes, HM, HS, HR, HU⟩ := hrel
  obtain ⟨w4, hwo⟩ : ∃ w1, w1 = wr := ⟨_, rfl⟩
  subst hwo
  obtain ⟨vu, vc, rfl⟩ := HR.out.slice
  have hp60 := HD.out.pl
  by_cases hjl : j < d.phis.length
  ·obtain ⟨pb, po, hu0, hpb, hi0, iu, iq, hi1, im⟩ : ∃ pb po, u0 = some ⟨pb, po, none⟩ ∧ pb < w.heap.size ∧ w.cell? ⟨pb, po + j * 2, none⟩ = some (.int .i64 (d.phis.getD j phi0).w) ∧ ∃ iu iq, w.cell? ⟨pb, po + j * 2 + 1, none⟩ = some (.slice iu (d.phis.getD j phi0).ins.length iq) ∧ IntsAt w lo iu (d.phis.getD j phi0).ins := by
    rcases m0.2 with hn | ⟨pb, po, hu, hplo, hpb, hpc⟩
    ·simp [hn] at hjl
    ·obtain ⟨hi0, ⟨iu, iq, hi1, im⟩⟩ := hpc j hjl
     exact ⟨pb, po, hu, hpb, hi0, iu, iq, hi1, im⟩
   have hsp := HD.out.ph _ (getD_mem phi0 d.phis j hjl)
   have HT := take_one phi0 d.phis j hjl
   generalize d.phis.getD j phi0 = p at hi0 hi1 im hsp HT
   have HT' : Hid (d.phis.take (j + 1) = d.phis.take j ++ [p]) := HT
   have hW := HS.out.bel
   have IM : IntsAt w4.drew lo iu p.ins := im.keep (agree_of_below hW.drew lo)
   have PI := copyO lo iu iq p.ins w4.drew (by have := hsp.1; omega) IM
   have hjI : (j : Int) < d.phis.length := by omega
   have SRC : Hid (∀ (W : World) (CS : Array Value), SSt w W X 41 #[.slice u0 d.phis.length c0, .slice u1 d.insts.length c1, .int .i64 d.term.kind, .int .i64 d.term.a, .int .i64 d.term.x, .int .i64 d.term.y] CS #[.slice none 0 0, .slice none 0 0, .int .i64 0, .int .i64 0, .int .i64 0, .int .i64 0] → W.cell? ⟨w.heap.size, 0, none⟩ = some (.slice (some ⟨pb, po, none⟩) d.phis.length c0) ∧ W.cell? ⟨pb, po + j * 2, none⟩ = some (.int .i64 p.w) ∧ W.cell? ⟨pb, po + j * 2 + 1, none⟩ = some (.slice iu p.ins.length iq)) := fun W CS h => ⟨by rw [← hu0]; exact (SP.out W CS h).1, (cell_block (h.bel.block pb hpb)).trans hi0, (cell_block (h.bel.block pb hpb)).trans hi1⟩
   have y0 := (SRC.out _ _ HS.out).1
   have hl1000 := hsp.1
   have s0 : SSt w w4.drew X 41 #[.slice u0 d.phis.length c0, .slice u1 d.insts.length c1, .int .i64 d.term.kind, .int .i64 d.term.a, .int .i64 d.term.x, .int .i64 d.term.y] #[.slice vu es.length vc, .slice none 0 0, .int .i64 d.term.kind, .int .i64 d.term.a, .int .i64 d.term.x, .int .i64 d.term.y] #[.slice none 0 0, .slice none 0 0, .int .i64 0, .int .i64 0, .int .i64 0, .int .i64 0] := HS.out.drew
   clear hi0 hi1 im hsp HT hW IM hu0
   go_wp2_with fail
   clear y0
   refine startX (fun w' => SSt w w' X 41 #[.slice u0 d.phis.length c0, .slice u1 d.insts.length c1, .int .i64 d.term.kind, .int .i64 d.term.a, .int .i64 d.term.x, .int .i64 d.term.y] #[.slice vu es.length vc, .slice none 0 0, .int .i64 d.term.kind, .int .i64 d.term.a, .int .i64 d.term.x, .int .i64 d.term.y] #[.slice none 0 0, .slice none 0 0, .int .i64 0, .int .i64 0, .int .i64 0, .int .i64 0]) (fun i => decide (i = 19)) (by kernel_rfl) ?_
   refine takeX 0 (v := ?_) rfl rfl (by kernel_rfl) (fun _ _ _ h => h) (yesH (by rfl) ?_) s0 ?_
   rotate_left
   ·intro w9 hS9
    obtain ⟨g0, g1, g2⟩ := SRC.out w9 _ hS9
    have g3 := hS9.box.cell 0
    go_simp
    try with_reducible rfl
   try simp only [Act.put, sA, sB, sC]
   refine takeX 1 (v := ?_) rfl rfl (by kernel_rfl) (fun _ _ _ h => h) (yesH (by rfl) ?_) s0 ?_
   rotate_left
   ·intro w9 hS9
    obtain ⟨g0, g1, g2⟩ := SRC.out w9 _ hS9
    have g3 := hS9.box.cell 0
    go_simp
    try with_reducible rfl
   try simp only [Act.put, sA, sB, sC]
   refine takeX 2 (v := ?_) rfl rfl (by kernel_rfl) (fun _ _ _ h => h) (yesH (by rfl) ?_) s0 ?_
   rotate_left
   ·intro w9 hS9
    obtain ⟨g0, g1, g2⟩ := SRC.out w9 _ hS9
    have g3 := hS9.box.cell 0
    go_simp
    try with_reducible rfl
   try simp only [Act.put, sA, sB, sC]
   refine takeX 3 (v := ?_) rfl rfl (by kernel_rfl) (fun _ _ _ h => h) (yesH (by rfl) ?_) s0 ?_
   rotate_left
   ·intro w9 hS9
    obtain ⟨g0, g1, g2⟩ := SRC.out w9 _ hS9
    have g3 := hS9.box.cell 0
    go_simp
    try with_reducible rfl
   try simp only [Act.put, sA, sB, sC]
   refine takeX 4 (v := ?_) rfl rfl (by kernel_rfl) (fun _ _ _ h => h) (yesH (by rfl) ?_) s0 ?_
   rotate_left
   ·intro w9 hS9
    obtain ⟨g0, g1, g2⟩ := SRC.out w9 _ hS9
    have g3 := hS9.box.cell 0
    go_simp
    try with_reducible rfl
   try simp only [Act.put, sA, sB, sC]
   refine takeX 5 (v := ?_) rfl rfl (by kernel_rfl) (fun _ _ _ h => h) (yesH (by rfl) ?_) s0 ?_
   rotate_left
   ·intro w9 hS9
    obtain ⟨g0, g1, g2⟩ := SRC.out w9 _ hS9
    have g3 := hS9.box.cell 0
    go_simp
    try with_reducible rfl
   try simp only [Act.put, sA, sB, sC]
   refine takeX 6 (v := ?_) rfl rfl (by kernel_rfl) (fun _ _ _ h => h) (yesH (by rfl) ?_) s0 ?_
   rotate_left
   ·intro w9 hS9
    obtain ⟨g0, g1, g2⟩ := SRC.out w9 _ hS9
    have g3 := hS9.box.cell 0
    go_simp
    try with_reducible rfl
   try simp only [Act.put, sA, sB, sC]
   refine takeX 7 (v := ?_) rfl rfl (by kernel_rfl) (fun _ _ _ h => h) (yesH (by rfl) ?_) s0 ?_
   rotate_left
   ·intro w9 hS9
    obtain ⟨g0, g1, g2⟩ := SRC.out w9 _ hS9
    have g3 := hS9.box.cell 0
    go_simp
    try with_reducible rfl
   try simp only [Act.put, sA, sB, sC]
   refine takeX 8 (v := ?_) rfl rfl (by kernel_rfl) (fun _ _ _ h => h) (yesH (by rfl) ?_) s0 ?_
   rotate_left
   ·intro w9 hS9
    obtain ⟨g0, g1, g2⟩ := SRC.out w9 _ hS9
    have g3 := hS9.box.cell 0
    go_simp
    try with_reducible rfl
   try simp only [Act.put, sA, sB, sC]
   refine takeX 9 (v := ?_) rfl rfl (by kernel_rfl) (fun _ _ _ h => h) (yesH (by rfl) ?_) s0 ?_
   rotate_left
   ·intro w9 hS9
    obtain ⟨g0, g1, g2⟩ := SRC.out w9 _ hS9
    have g3 := hS9.box.cell 0
    go_simp
    try with_reducible rfl
   try simp only [Act.put, sA, sB, sC]
   refine takeX 10 (v := ?_) rfl rfl (by kernel_rfl) (fun _ _ _ h => h) (yesH (by rfl) ?_) s0 ?_
   rotate_left
   ·intro w9 hS9
    obtain ⟨g0, g1, g2⟩ := SRC.out w9 _ hS9
    have g3 := hS9.box.cell 0
    go_simp
    try with_reducible rfl
   try simp only [Act.put, sA, sB, sC]
   refine takeX 11 (v := ?_) rfl rfl (by kernel_rfl) (fun _ _ _ h => h) (yesH (by rfl) ?_) s0 ?_
   rotate_left
   ·intro w9 hS9
    obtain ⟨g0, g1, g2⟩ := SRC.out w9 _ hS9
    have g3 := hS9.box.cell 0
    go_simp
    try with_reducible rfl
   try simp only [Act.put, sA, sB, sC]
   refine takeX 12 (v := ?_) rfl rfl (by kernel_rfl) (fun _ _ _ h => h) (yesH (by rfl) ?_) s0 ?_
   rotate_left
   ·intro w9 hS9
    obtain ⟨g0, g1, g2⟩ := SRC.out w9 _ hS9
    have g3 := hS9.box.cell 0
    go_simp
    try with_reducible rfl
   try simp only [Act.put, sA, sB, sC]
   refine takeX 13 (v := ?_) rfl rfl (by kernel_rfl) (fun _ _ _ h => h) (yesH (by rfl) ?_) s0 ?_
   rotate_left
   ·intro w9 hS9
    obtain ⟨g0, g1, g2⟩ := SRC.out w9 _ hS9
    have g3 := hS9.box.cell 0
    go_simp
    try with_reducible rfl
   try simp only [Act.put, sA, sB, sC]
   clear s0
   refine readyX 14 rfl (by kernel_rfl) (fun K hK => ?_)
   go_simp
   go_wp2_with fail
   refine PI.mono ?_
   rintro e w6 ⟨ru, rc, rfl, hown, b6'⟩
   have b6 : Below w4.heap.size w4 w6 := undrew b6'
   have HS6 : Hid (SSt w w6 X 41 #[.slice u0 d.phis.length c0, .slice u1 d.insts.length c1, .int .i64 d.term.kind, .int .i64 d.term.a, .int .i64 d.term.x, .int .i64 d.term.y] #[.slice vu es.length vc, .slice none 0 0, .int .i64 d.term.kind, .int .i64 d.term.a, .int .i64 d.term.x, .int .i64 d.term.y] #[.slice none 0 0, .slice none 0 0, .int .i64 0, .int .i64 0, .int .i64 0, .int .i64 0]) := HS.out.keep b6
   have HR6 : Hid (RowS 89 2 phC w6 (X + 1) (.slice vu es.length vc) es) := HR.out.still (Still.below (k := 9) b6) (by decide)
   have HU6 : Hid (Sub OwnPhE w6 (X + 1) w6.heap.size (es ++ [(p, ru, rc)])) := Sub.snoc (HU.out.still fun _ _ _ h => OwnI.still h (Still.below (k := 9) b6) (by decide)) (Nat.le_refl _) b6.size hown
   have HM6 : Hid ((es ++ [(p, ru, rc)]).map (·.1) = d.phis.take (j + 1)) := by
    show _ = _
    rw [HT'.out, List.map_append, HM.out]
    rfl
   have b7 : Below w6.heap.size w6 (w6.alloc (.cells #[.int .i64 p.w, .slice ru p.ins.length rc] 89)) := (Below.refl _ _).alloc (Nat.le_refl _) _
   have s7 : SSt w (w6.alloc (.cells #[.int .i64 p.w, .slice ru p.ins.length rc] 89)) X 41 #[.slice u0 d.phis.length c0, .slice u1 d.insts.length c1, .int .i64 d.term.kind, .int .i64 d.term.a, .int .i64 d.term.x, .int .i64 d.term.y] #[.slice vu es.length vc, .slice none 0 0, .int .i64 d.term.kind, .int .i64 d.term.a, .int .i64 d.term.x, .int .i64 d.term.y] #[.slice none 0 0, .slice none 0 0, .int .i64 0, .int .i64 0, .int .i64 0, .int .i64 0] := HS6.out.keep b7
   obtain ⟨g8, cap8, w8, hrun, b8, kp8, hX8, st9, hr9, hu9⟩ := app_box appPh 36 (C := phC) (O := OwnPhE) (TB := 41) (fun _ => rfl) (fun e v hv => by simp only [phC, List.mem_cons, List.not_mem_nil, or_false] at hv; rcases hv with rfl | rfl <;> rfl) (by decide) (fun _ _ _ _ _ st h => OwnI.still h st (by decide)) 0 HR6.out HU6.out HS6.out.box (by have := hes.out; omega)
   have hrun : (Builtin.append_ #[36, 36] 36 #[.slice vu es.length vc, .slice (some ⟨w6.heap.size, 0, none⟩) 1 1]).run Tryd.prog (w6.alloc (.cells #[.int .i64 p.w, .slice ru p.ins.length rc] 89)) = .ok (.slice (some ⟨g8, 0, none⟩) (es.length + 1) cap8) w8 := hrun
   have s8 : SSt w w8 X 41 #[.slice u0 d.phis.length c0, .slice u1 d.insts.length c1, .int .i64 d.term.kind, .int .i64 d.term.a, .int .i64 d.term.x, .int .i64 d.term.y] #[.slice vu es.length vc, .slice none 0 0, .int .i64 d.term.kind, .int .i64 d.term.a, .int .i64 d.term.x, .int .i64 d.term.y] #[.slice none 0 0, .slice none 0 0, .int .i64 0, .int .i64 0, .int .i64 0, .int .i64 0] := HS6.out.low b8 (by omega)
   have HS9 : Hid (SSt w (w8.setCell ⟨X, 0, none⟩ (.slice (some ⟨g8, 0, none⟩) (es.length + 1) cap8)) X 41 #[.slice u0 d.phis.length c0, .slice u1 d.insts.length c1, .int .i64 d.term.kind, .int .i64 d.term.a, .int .i64 d.term.x, .int .i64 d.term.y] #[(.slice (some ⟨g8, 0, none⟩) (es.length + 1) cap8), .slice none 0 0, .int .i64 d.term.kind, .int .i64 d.term.a, .int .i64 d.term.x, .int .i64 d.term.y] #[.slice none 0 0, .slice none 0 0, .int .i64 0, .int .i64 0, .int .i64 0, .int .i64 0]) := s8.set 0 _
   have HR9 : Hid (RowS 89 2 phC (w8.setCell ⟨X, 0, none⟩ (.slice (some ⟨g8, 0, none⟩) (es.length + 1) cap8)) (X + 1) (.slice (some ⟨g8, 0, none⟩) (es.length + 1) cap8) (es ++ [(p, ru, rc)])) := hr9
   have HU9 : Hid (Sub OwnPhE (w8.setCell ⟨X, 0, none⟩ (.slice (some ⟨g8, 0, none⟩) (es.length + 1) cap8)) (X + 1) ((w8.setCell ⟨X, 0, none⟩ (.slice (some ⟨g8, 0, none⟩) (es.length + 1) cap8))).heap.size (es ++ [(p, ru, rc)])) := hu9
   have c8 : w8.cell? ⟨X, 0, none⟩ = some (.slice vu es.length vc) := s8.box.cell 0
   have f8 : w8.frozen? ⟨X, 0, none⟩ = false := froz_of_heap s8.box
   clear PI b6 b6' hown HR6 HU6 b7 b8 kp8 hX8 st9 hr9 hu9 HM HT' hl1000 HS HR HU
   refine hK.out _ _ (.inr HS6.out) ?_
   clear hK K
   try simp only [Act.put, sA, sB, sC]
   refine takeX 15 (v := ?_) rfl rfl (by kernel_rfl) (fun _ _ _ h => h) (yesH (by rfl) ?_) HS6.out ?_
   rotate_left
   ·intro w9 hS9
    go_simp
    try with_reducible rfl
   try simp only [Act.put, sA, sB, sC]
   clear HS6
   refine readyX 16 rfl (by kernel_rfl) (fun K hK => ?_)
   go_simp
   refine hK.out _ _ (.inr s7) ?_
   clear hK K s7
   try simp only [Act.put, sA, sB, sC]
   refine readyX 17 rfl (by kernel_rfl) (fun K hK => ?_)
   refine step_runP rfl _ _ _ rfl rfl rfl hrun ?_
   refine hK.out _ _ (.inr s8) ?_
   clear hK K hrun
   try simp only [Act.put, sA, sB, sC]
   refine takeX 18 (v := ?_) rfl rfl (by kernel_rfl) (fun _ _ _ h => h) (yesH (by rfl) ?_) s8 ?_
   rotate_left
   ·intro w9 hS9
    go_simp
    try with_reducible rfl
   try simp only [Act.put, sA, sB, sC]
   clear s8 SRC
   refine readyX 19 rfl (by kernel_rfl) (fun K hK => ?_)
   go_simp
   refine hK.out _ _ (.inl rfl) ?_
   clear hK K
   refine doneX (by kernel_rfl) ?_ _
   go_wp2_with fail
   go_roundw
   case rel => exact ⟨j + 1, _, _, by omega, by go_num, (by have := hes.out; show _ = _; rw [List.length_append]; simp; omega), HM6.out, HS9.out, HR9.out, HU9.out⟩
   case measure => simp [intOf]; omega
  ·have hje : j = d.phis.length := by omega
   have HMe : Hid (es.map (·.1) = d.phis) := by
    show _ = _
    rw [HM.out, hje, List.take_length]
   have HW : Hid (OwnPhs w4 (X + 1) w4.heap.size vu es) := RowS.own (fun _ => rfl) (by have := hes.out; omega) HR.out HU.out (Nat.le_refl _) (Nat.le_refl _)
   have hm4 : X + 1 ≤ w4.heap.size := HU.out.le
   obtain ⟨p0, p1⟩ := SP.out _ _ HS.out
   clear HM HR HU
   go_wp2_with fail
   clear p0 p1
   obtain ⟨m, hmm⟩ : ∃ m, w4.heap.size = m := ⟨_, rfl⟩
   rw [hmm] at HW hm4
   have hmm' : m ≤ w4.heap.size := by omega
   clear hmm
   go_loopw [5] (fun i wr => ∃ (j : Nat) (v : Value) (is : List InE), j ≤ d.insts.length ∧ i = .int .i64 j ∧ Hid (is.length = j) ∧ Hid (is.map (·.1) = d.insts.take j) ∧ Hid (SSt w wr X 41 #[.slice u0 d.phis.length c0, .slice u1 d.insts.length c1, .int .i64 d.term.kind, .int .i64 d.term.a, .int .i64 d.term.x, .int .i64 d.term.y] #[.slice vu es.length vc, v, .int .i64 d.term.kind, .int .i64 d.term.a, .int .i64 d.term.x, .int .i64 d.term.y] #[.slice none 0 0, .slice none 0 0, .int .i64 0, .int .i64 0, .int .i64 0, .int .i64 0]) ∧ Hid (OwnPhs wr (X + 1) m vu es) ∧ Hid (RowS 44 7 inC wr m v is) ∧ Hid (Sub OwnInE wr m wr.heap.size is)) (fun i _ => d.insts.length - (intOf i).toNat)
   case atStart => exact ⟨0, _, [], by omega, rfl, rfl, rfl, HS.out, HW.out, RowS.nil _ _ _ _ _, hmm'⟩
   case round =>
    clear HS HW hmm' hjl hje m0
    obtain ⟨k, v, is, hk, rfl, his, HM, HS, HW, HR, HU⟩ := hrel
    obtain ⟨w5, hwo⟩ : ∃ w1, w1 = wr := ⟨_, rfl⟩
    subst hwo
    obtain ⟨nu, nc, rfl⟩ := HR.out.slice
    have hi60 := HD.out.il
    by_cases hkl : k < d.insts.length
    ·obtain ⟨pb, po, hu1, hpb, hi0, hi1, hi2, hi3, hi4, hi5, iu, iq, hi6, im⟩ : ∃ pb po, u1 = some ⟨pb, po, none⟩ ∧ pb < w.heap.size ∧ w.cell? ⟨pb, po + k * 7, none⟩ = some (.int .i64 (d.insts.getD k inst0).op) ∧ w.cell? ⟨pb, po + k * 7 + 1, none⟩ = some (.int .i64 (d.insts.getD k inst0).w) ∧ w.cell? ⟨pb, po + k * 7 + 2, none⟩ = some (.int .i64 (d.insts.getD k inst0).a) ∧ w.cell? ⟨pb, po + k * 7 + 3, none⟩ = some (.int .i64 (d.insts.getD k inst0).b) ∧ w.cell? ⟨pb, po + k * 7 + 4, none⟩ = some (.int .i64 (d.insts.getD k inst0).c) ∧ w.cell? ⟨pb, po + k * 7 + 5, none⟩ = some (.int .i64 (d.insts.getD k inst0).imm) ∧ ∃ iu iq, w.cell? ⟨pb, po + k * 7 + 6, none⟩ = some (.slice iu (d.insts.getD k inst0).args.length iq) ∧ IntsAt w lo iu (d.insts.getD k inst0).args := by
      rcases m1.2 with hn | ⟨pb, po, hu, hplo, hpb, hpc⟩
      ·simp [hn] at hkl
      ·obtain ⟨hi0, hi1, hi2, hi3, hi4, hi5, ⟨iu, iq, hi6, im⟩⟩ := hpc k hkl
       exact ⟨pb, po, hu, hpb, hi0, hi1, hi2, hi3, hi4, hi5, iu, iq, hi6, im⟩
     have hsp := HD.out.is _ (getD_mem inst0 d.insts k hkl)
     have HT := take_one inst0 d.insts k hkl
     generalize d.insts.getD k inst0 = p at hi0 hi1 hi2 hi3 hi4 hi5 hi6 im hsp HT
     have HT' : Hid (d.insts.take (k + 1) = d.insts.take k ++ [p]) := HT
     have hW := HS.out.bel
     have IM : IntsAt w5.drew lo iu p.args := im.keep (agree_of_below hW.drew lo)
     have PI := copyInstO lo p iu iq w5.drew hsp.1 IM
     have hkI : (k : Int) < d.insts.length := by omega
     have SRC : Hid (∀ (W : World) (CS : Array Value), SSt w W X 41 #[.slice u0 d.phis.length c0, .slice u1 d.insts.length c1, .int .i64 d.term.kind, .int .i64 d.term.a, .int .i64 d.term.x, .int .i64 d.term.y] CS #[.slice none 0 0, .slice none 0 0, .int .i64 0, .int .i64 0, .int .i64 0, .int .i64 0] → W.cell? ⟨w.heap.size, 1, none⟩ = some (.slice (some ⟨pb, po, none⟩) d.insts.length c1) ∧ W.cell? ⟨pb, po + k * 7, none⟩ = some (.int .i64 p.op) ∧ W.cell? ⟨pb, po + k * 7 + 1, none⟩ = some (.int .i64 p.w) ∧ W.cell? ⟨pb, po + k * 7 + 2, none⟩ = some (.int .i64 p.a) ∧ W.cell? ⟨pb, po + k * 7 + 3, none⟩ = some (.int .i64 p.b) ∧ W.cell? ⟨pb, po + k * 7 + 4, none⟩ = some (.int .i64 p.c) ∧ W.cell? ⟨pb, po + k * 7 + 5, none⟩ = some (.int .i64 p.imm) ∧ W.cell? ⟨pb, po + k * 7 + 6, none⟩ = some (.slice iu p.args.length iq)) := fun W CS h => ⟨by rw [← hu1]; exact (SP.out W CS h).2, (cell_block (h.bel.block pb hpb)).trans hi0, (cell_block (h.bel.block pb hpb)).trans hi1, (cell_block (h.bel.block pb hpb)).trans hi2, (cell_block (h.bel.block pb hpb)).trans hi3, (cell_block (h.bel.block pb hpb)).trans hi4, (cell_block (h.bel.block pb hpb)).trans hi5, (cell_block (h.bel.block pb hpb)).trans hi6⟩
     have y0 := (SRC.out _ _ HS.out).1
     have hX5 : X < w5.heap.size := HS.out.box.lt
     have hXm : X + 1 ≤ m := hm4
     have s0 : SSt w w5.drew X 41 #[.slice u0 d.phis.length c0, .slice u1 d.insts.length c1, .int .i64 d.term.kind, .int .i64 d.term.a, .int .i64 d.term.x, .int .i64 d.term.y] #[.slice vu es.length vc, .slice nu is.length nc, .int .i64 d.term.kind, .int .i64 d.term.a, .int .i64 d.term.x, .int .i64 d.term.y] #[.slice none 0 0, .slice none 0 0, .int .i64 0, .int .i64 0, .int .i64 0, .int .i64 0] := HS.out.drew
     clear hi0 hi1 hi2 hi3 hi4 hi5 hi6 im hsp HT IM hW hu1
     go_wp2_with fail
     clear y0
     refine startX (fun w' => SSt w w' X 41 #[.slice u0 d.phis.length c0, .slice u1 d.insts.length c1, .int .i64 d.term.kind, .int .i64 d.term.a, .int .i64 d.term.x, .int .i64 d.term.y] #[.slice vu es.length vc, .slice nu is.length nc, .int .i64 d.term.kind, .int .i64 d.term.a, .int .i64 d.term.x, .int .i64 d.term.y] #[.slice none 0 0, .slice none 0 0, .int .i64 0, .int .i64 0, .int .i64 0, .int .i64 0]) (fun i => decide (i = 11)) (by kernel_rfl) ?_
     refine takeX 0 (v := ?_) rfl rfl (by kernel_rfl) (fun _ _ _ h => h) (yesH (by rfl) ?_) s0 ?_
     rotate_left
     ·intro w9 hS9
      obtain ⟨g0, g1, g2, g3, g4, g5, g6, g7⟩ := SRC.out w9 _ hS9
      have g8 := hS9.box.cell 1
      go_simp
      try with_reducible rfl
     try simp only [Act.put, sA, sB, sC]
     refine takeX 1 (v := ?_) rfl rfl (by kernel_rfl) (fun _ _ _ h => h) (yesH (by rfl) ?_) s0 ?_
     rotate_left
     ·intro w9 hS9
      obtain ⟨g0, g1, g2, g3, g4, g5, g6, g7⟩ := SRC.out w9 _ hS9
      have g8 := hS9.box.cell 1
      go_simp
      try with_reducible rfl
     try simp only [Act.put, sA, sB, sC]
     refine takeX 2 (v := ?_) rfl rfl (by kernel_rfl) (fun _ _ _ h => h) (yesH (by rfl) ?_) s0 ?_
     rotate_left
     ·intro w9 hS9
      obtain ⟨g0, g1, g2, g3, g4, g5, g6, g7⟩ := SRC.out w9 _ hS9
      have g8 := hS9.box.cell 1
      go_simp
      try with_reducible rfl
     try simp only [Act.put, sA, sB, sC]
     refine takeX 3 (v := ?_) rfl rfl (by kernel_rfl) (fun _ _ _ h => h) (yesH (by rfl) ?_) s0 ?_
     rotate_left
     ·intro w9 hS9
      obtain ⟨g0, g1, g2, g3, g4, g5, g6, g7⟩ := SRC.out w9 _ hS9
      have g8 := hS9.box.cell 1
      go_simp
      try with_reducible rfl
     try simp only [Act.put, sA, sB, sC]
     refine takeX 4 (v := ?_) rfl rfl (by kernel_rfl) (fun _ _ _ h => h) (yesH (by rfl) ?_) s0 ?_
     rotate_left
     ·intro w9 hS9
      obtain ⟨g0, g1, g2, g3, g4, g5, g6, g7⟩ := SRC.out w9 _ hS9
      have g8 := hS9.box.cell 1
      go_simp
      try with_reducible rfl
     try simp only [Act.put, sA, sB, sC]
     refine takeX 5 (v := ?_) rfl rfl (by kernel_rfl) (fun _ _ _ h => h) (yesH (by rfl) ?_) s0 ?_
     rotate_left
     ·intro w9 hS9
      obtain ⟨g0, g1, g2, g3, g4, g5, g6, g7⟩ := SRC.out w9 _ hS9
      have g8 := hS9.box.cell 1
      go_simp
      try with_reducible rfl
     try simp only [Act.put, sA, sB, sC]
     refine takeX 6 (v := ?_) rfl rfl (by kernel_rfl) (fun _ _ _ h => h) (yesH (by rfl) ?_) s0 ?_
     rotate_left
     ·intro w9 hS9
      obtain ⟨g0, g1, g2, g3, g4, g5, g6, g7⟩ := SRC.out w9 _ hS9
      have g8 := hS9.box.cell 1
      go_simp
      try with_reducible rfl
     try simp only [Act.put, sA, sB, sC]
     clear s0
     refine readyX 7 rfl (by kernel_rfl) (fun K hK => ?_)
     go_simp
     go_wp2_with fail
     refine PI.mono ?_
     rintro e w7 ⟨ru, rc, rfl, hown, b7'⟩
     have b7 : Below w5.heap.size w5 w7 := undrew b7'
     have HS7 : Hid (SSt w w7 X 41 #[.slice u0 d.phis.length c0, .slice u1 d.insts.length c1, .int .i64 d.term.kind, .int .i64 d.term.a, .int .i64 d.term.x, .int .i64 d.term.y] #[.slice vu es.length vc, .slice nu is.length nc, .int .i64 d.term.kind, .int .i64 d.term.a, .int .i64 d.term.x, .int .i64 d.term.y] #[.slice none 0 0, .slice none 0 0, .int .i64 0, .int .i64 0, .int .i64 0, .int .i64 0]) := HS.out.keep b7
     have HW7 : Hid (OwnPhs w7 (X + 1) m vu es) := OwnPhs.still HW.out (Still.below (k := 9) b7) (by decide)
     have HR7 : Hid (RowS 44 7 inC w7 m (.slice nu is.length nc) is) := HR.out.still (Still.below (k := 9) b7) (by decide)
     have HU7 : Hid (Sub OwnInE w7 m w7.heap.size (is ++ [(p, ru, rc)])) := Sub.snoc (HU.out.still fun _ _ _ h => OwnI.still h (Still.below (k := 9) b7) (by decide)) (Nat.le_refl _) b7.size hown
     have HM7 : Hid ((is ++ [(p, ru, rc)]).map (·.1) = d.insts.take (k + 1)) := by
      show _ = _
      rw [HT'.out, List.map_append, HM.out]
      rfl
     have b8 : Below w7.heap.size w7 (w7.alloc (.cells #[.int .i64 p.op, .int .i64 p.w, .int .i64 p.a, .int .i64 p.b, .int .i64 p.c, .int .i64 p.imm, .slice ru p.args.length rc] 44)) := (Below.refl _ _).alloc (Nat.le_refl _) _
     have s8 : SSt w (w7.alloc (.cells #[.int .i64 p.op, .int .i64 p.w, .int .i64 p.a, .int .i64 p.b, .int .i64 p.c, .int .i64 p.imm, .slice ru p.args.length rc] 44)) X 41 #[.slice u0 d.phis.length c0, .slice u1 d.insts.length c1, .int .i64 d.term.kind, .int .i64 d.term.a, .int .i64 d.term.x, .int .i64 d.term.y] #[.slice vu es.length vc, .slice nu is.length nc, .int .i64 d.term.kind, .int .i64 d.term.a, .int .i64 d.term.x, .int .i64 d.term.y] #[.slice none 0 0, .slice none 0 0, .int .i64 0, .int .i64 0, .int .i64 0, .int .i64 0] := HS7.out.keep b8
     obtain ⟨g9, cap9, w9, hrun, b9, kp9, hX9, sta, hra, hua⟩ := app_box appIn 37 (C := inC) (O := OwnInE) (TB := 41) (fun _ => rfl) (fun e v hv => by simp only [inC, List.mem_cons, List.not_mem_nil, or_false] at hv; rcases hv with rfl | rfl | rfl | rfl | rfl | rfl | rfl <;> rfl) (by decide) (fun _ _ _ _ _ st h => OwnI.still h st (by decide)) 1 HR7.out HU7.out HS7.out.box (by have := his.out; omega)
     have hrun : (Builtin.append_ #[37, 37] 37 #[.slice nu is.length nc, .slice (some ⟨w7.heap.size, 0, none⟩) 1 1]).run Tryd.prog (w7.alloc (.cells #[.int .i64 p.op, .int .i64 p.w, .int .i64 p.a, .int .i64 p.b, .int .i64 p.c, .int .i64 p.imm, .slice ru p.args.length rc] 44)) = .ok (.slice (some ⟨g9, 0, none⟩) (is.length + 1) cap9) w9 := hrun
     have s9 : SSt w w9 X 41 #[.slice u0 d.phis.length c0, .slice u1 d.insts.length c1, .int .i64 d.term.kind, .int .i64 d.term.a, .int .i64 d.term.x, .int .i64 d.term.y] #[.slice vu es.length vc, .slice nu is.length nc, .int .i64 d.term.kind, .int .i64 d.term.a, .int .i64 d.term.x, .int .i64 d.term.y] #[.slice none 0 0, .slice none 0 0, .int .i64 0, .int .i64 0, .int .i64 0, .int .i64 0] := HS7.out.low b9 (by omega)
     have HSa : Hid (SSt w (w9.setCell ⟨X, 1, none⟩ (.slice (some ⟨g9, 0, none⟩) (is.length + 1) cap9)) X 41 #[.slice u0 d.phis.length c0, .slice u1 d.insts.length c1, .int .i64 d.term.kind, .int .i64 d.term.a, .int .i64 d.term.x, .int .i64 d.term.y] #[.slice vu es.length vc, (.slice (some ⟨g9, 0, none⟩) (is.length + 1) cap9), .int .i64 d.term.kind, .int .i64 d.term.a, .int .i64 d.term.x, .int .i64 d.term.y] #[.slice none 0 0, .slice none 0 0, .int .i64 0, .int .i64 0, .int .i64 0, .int .i64 0]) := s9.set 1 _
     have HWa : Hid (OwnPhs (w9.setCell ⟨X, 1, none⟩ (.slice (some ⟨g9, 0, none⟩) (is.length + 1) cap9)) (X + 1) m vu es) := OwnPhs.still HW7.out sta (by decide)
     have HRa : Hid (RowS 44 7 inC (w9.setCell ⟨X, 1, none⟩ (.slice (some ⟨g9, 0, none⟩) (is.length + 1) cap9)) m (.slice (some ⟨g9, 0, none⟩) (is.length + 1) cap9) (is ++ [(p, ru, rc)])) := hra
     have HUa : Hid (Sub OwnInE (w9.setCell ⟨X, 1, none⟩ (.slice (some ⟨g9, 0, none⟩) (is.length + 1) cap9)) m ((w9.setCell ⟨X, 1, none⟩ (.slice (some ⟨g9, 0, none⟩) (is.length + 1) cap9))).heap.size (is ++ [(p, ru, rc)])) := hua
     have c9 : w9.cell? ⟨X, 1, none⟩ = some (.slice nu is.length nc) := s9.box.cell 1
     have fz9 : w9.frozen? ⟨X, 1, none⟩ = false := froz_of_heap s9.box
     clear PI b7 b7' hown HS HW HR HU HW7 HR7 HU7 b8 b9 kp9 hX9 sta hra hua HM HT'
     refine hK.out _ _ (.inr HS7.out) ?_
     clear hK K HS7
     try simp only [Act.put, sA, sB, sC]
     refine readyX 8 rfl (by kernel_rfl) (fun K hK => ?_)
     go_simp
     refine hK.out _ _ (.inr s8) ?_
     clear hK K s8
     try simp only [Act.put, sA, sB, sC]
     refine readyX 9 rfl (by kernel_rfl) (fun K hK => ?_)
     refine step_runP rfl _ _ _ rfl rfl rfl hrun ?_
     refine hK.out _ _ (.inr s9) ?_
     clear hK K hrun
     try simp only [Act.put, sA, sB, sC]
     refine takeX 10 (v := ?_) rfl rfl (by kernel_rfl) (fun _ _ _ h => h) (yesH (by rfl) ?_) s9 ?_
     rotate_left
     ·intro w9 hS9
      go_simp
      try with_reducible rfl
     try simp only [Act.put, sA, sB, sC]
     clear s9 SRC
     refine readyX 11 rfl (by kernel_rfl) (fun K hK => ?_)
     go_simp
     refine hK.out _ _ (.inl rfl) ?_
     clear hK K
     refine doneX (by kernel_rfl) ?_ _
     go_wp2_with fail
     go_roundw
     case rel => exact ⟨k + 1, _, _, by omega, by go_num, (by have := his.out; show _ = _; rw [List.length_append]; simp; omega), HM7.out, HSa.out, HWa.out, HRa.out, HUa.out⟩
     case measure => simp [intOf]; omega
    ·have hke : k = d.insts.length := by omega
     have HMi : Hid (is.map (·.1) = d.insts) := by
      show _ = _
      rw [HM.out, hke, List.take_length]
     have HV : Hid (OwnIns w5 m w5.heap.size nu is) := RowS.own (fun _ => rfl) (by have := his.out; omega) HR.out HU.out (Nat.le_refl _) (Nat.le_refl _)
     have hm5 : m ≤ w5.heap.size := HU.out.le
     obtain ⟨p0, p1⟩ := SP.out _ _ HS.out
     have x0 : w5.cell? ⟨X, 0, none⟩ = some (.slice vu es.length vc) := HS.out.box.cell 0
     have r0 : w5.cell? ⟨w.heap.size + 1, 0, none⟩ = some (.slice none 0 0) := HS.out.res.cell 0
     have x1 : w5.cell? ⟨X, 1, none⟩ = some (.slice nu is.length nc) := HS.out.box.cell 1
     have r1 : w5.cell? ⟨w.heap.size + 1, 1, none⟩ = some (.slice none 0 0) := HS.out.res.cell 1
     have x2 : w5.cell? ⟨X, 2, none⟩ = some (.int .i64 d.term.kind) := HS.out.box.cell 2
     have r2 : w5.cell? ⟨w.heap.size + 1, 2, none⟩ = some (.int .i64 0) := HS.out.res.cell 2
     have x3 : w5.cell? ⟨X, 3, none⟩ = some (.int .i64 d.term.a) := HS.out.box.cell 3
     have r3 : w5.cell? ⟨w.heap.size + 1, 3, none⟩ = some (.int .i64 0) := HS.out.res.cell 3
     have x4 : w5.cell? ⟨X, 4, none⟩ = some (.int .i64 d.term.x) := HS.out.box.cell 4
     have r4 : w5.cell? ⟨w.heap.size + 1, 4, none⟩ = some (.int .i64 0) := HS.out.res.cell 4
     have x5 : w5.cell? ⟨X, 5, none⟩ = some (.int .i64 d.term.y) := HS.out.box.cell 5
     have r5 : w5.cell? ⟨w.heap.size + 1, 5, none⟩ = some (.int .i64 0) := HS.out.res.cell 5
     have rf : ∀ o, w5.frozen? ⟨w.heap.size + 1, o, none⟩ = false := fun o => froz_of_heap HS.out.res
     have hX0 := HS.out.ltX
     clear HM HR HU
     go_wp2_with fail
     have hr := (heap_set (o := 5) (v := .int .i64 d.term.y) (heap_set (o := 4) (v := .int .i64 d.term.x) (heap_set (o := 3) (v := .int .i64 d.term.a) (heap_set (o := 2) (v := .int .i64 d.term.kind) (heap_set (o := 1) (v := .slice nu is.length nc) (heap_set (o := 0) (v := .slice vu es.length vc) HS.out.res))))))
     have BB : Below w.heap.size w ((((((w5.setCell ⟨w.heap.size + 1, 0, none⟩ (.slice vu es.length vc)).setCell ⟨w.heap.size + 1, 1, none⟩ (.slice nu is.length nc)).setCell ⟨w.heap.size + 1, 2, none⟩ (.int .i64 d.term.kind)).setCell ⟨w.heap.size + 1, 3, none⟩ (.int .i64 d.term.a)).setCell ⟨w.heap.size + 1, 4, none⟩ (.int .i64 d.term.x)).setCell ⟨w.heap.size + 1, 5, none⟩ (.int .i64 d.term.y)) := ((((((((((((HS.out.bel).setCell (by dsimp only; omega) _)).setCell (by dsimp only; omega) _)).setCell (by dsimp only; omega) _)).setCell (by dsimp only; omega) _)).setCell (by dsimp only; omega) _)).setCell (by dsimp only; omega) _)
     have hzr : w5.heap.size ≤ (((((((w5.setCell ⟨w.heap.size + 1, 0, none⟩ (.slice vu es.length vc)).setCell ⟨w.heap.size + 1, 1, none⟩ (.slice nu is.length nc)).setCell ⟨w.heap.size + 1, 2, none⟩ (.int .i64 d.term.kind)).setCell ⟨w.heap.size + 1, 3, none⟩ (.int .i64 d.term.a)).setCell ⟨w.heap.size + 1, 4, none⟩ (.int .i64 d.term.x)).setCell ⟨w.heap.size + 1, 5, none⟩ (.int .i64 d.term.y))).heap.size := by simp only [World.size_setCell]; exact Nat.le_refl _
     have SS : Still 3 w5 ((((((w5.setCell ⟨w.heap.size + 1, 0, none⟩ (.slice vu es.length vc)).setCell ⟨w.heap.size + 1, 1, none⟩ (.slice nu is.length nc)).setCell ⟨w.heap.size + 1, 2, none⟩ (.int .i64 d.term.kind)).setCell ⟨w.heap.size + 1, 3, none⟩ (.int .i64 d.term.a)).setCell ⟨w.heap.size + 1, 4, none⟩ (.int .i64 d.term.x)).setCell ⟨w.heap.size + 1, 5, none⟩ (.int .i64 d.term.y)) := (Still.trans (Still.set (k := 3) (o := 0) (v := .slice vu es.length vc) HS.out.res (by decide)) (Still.trans (Still.set (k := 3) (o := 1) (v := .slice nu is.length nc) (heap_set (o := 0) (v := .slice vu es.length vc) HS.out.res) (by decide)) (Still.trans (Still.set (k := 3) (o := 2) (v := .int .i64 d.term.kind) (heap_set (o := 1) (v := .slice nu is.length nc) (heap_set (o := 0) (v := .slice vu es.length vc) HS.out.res)) (by decide)) (Still.trans (Still.set (k := 3) (o := 3) (v := .int .i64 d.term.a) (heap_set (o := 2) (v := .int .i64 d.term.kind) (heap_set (o := 1) (v := .slice nu is.length nc) (heap_set (o := 0) (v := .slice vu es.length vc) HS.out.res))) (by decide)) (Still.trans (Still.set (k := 3) (o := 4) (v := .int .i64 d.term.x) (heap_set (o := 3) (v := .int .i64 d.term.a) (heap_set (o := 2) (v := .int .i64 d.term.kind) (heap_set (o := 1) (v := .slice nu is.length nc) (heap_set (o := 0) (v := .slice vu es.length vc) HS.out.res)))) (by decide)) (Still.set (k := 3) (o := 5) (v := .int .i64 d.term.y) (heap_set (o := 4) (v := .int .i64 d.term.x) (heap_set (o := 3) (v := .int .i64 d.term.a) (heap_set (o := 2) (v := .int .i64 d.term.kind) (heap_set (o := 1) (v := .slice nu is.length nc) (heap_set (o := 0) (v := .slice vu es.length vc) HS.out.res))))) (by decide)))))))
     generalize ((((((w5.setCell ⟨w.heap.size + 1, 0, none⟩ (.slice vu es.length vc)).setCell ⟨w.heap.size + 1, 1, none⟩ (.slice nu is.length nc)).setCell ⟨w.heap.size + 1, 2, none⟩ (.int .i64 d.term.kind)).setCell ⟨w.heap.size + 1, 3, none⟩ (.int .i64 d.term.a)).setCell ⟨w.heap.size + 1, 4, none⟩ (.int .i64 d.term.x)).setCell ⟨w.heap.size + 1, 5, none⟩ (.int .i64 d.term.y)) = W9 at *
     have UU : OwnBk W9 w.heap.size W9.heap.size ⟨es, vu, vc, is, nu, nc, d.term⟩ := ⟨m, by omega, by omega, (OwnPhs.still HW.out SS (by decide)).wide (by omega) (Nat.le_refl _), (OwnIns.still HV.out SS (by decide)).wide (Nat.le_refl _) (by omega)⟩
     exact bodyPost_ret (v := .agg #[.slice vu es.length vc, .slice nu is.length nc, .int .i64 d.term.kind, .int .i64 d.term.a, .int .i64 d.term.x, .int .i64 d.term.y]) ((results_cell_row Tryd.results80 _ _ (w.heap.size + 1) 41 _ (0, 0) _ rfl hr Tryd.underlying41 rfl (by kernel_rfl)).trans (by rfl)) rfl ⟨⟨es, vu, vc, is, nu, nc, d.term⟩, (by unfold BkE.d; dsimp only; rw [HMe.out, HMi.out]), rfl, UU, BB⟩
end Go.Proofs.YtenbodghkpbghaaDoor
