import Derived.Test.YtoknhppjdmoblaaGreatDoorFdGQ
namespace Go.Proofs.YtoknhppjdmoblaaGreatDoor
set_option linter.unusedVariables false
set_option linter.unusedSimpArgs false
open Go.RowKit
theorem instOfI (op w0 imm : Int) (lo : Nat) (u : Option Addr) (q : Nat) (l : List Int) (w : World) (hl : op = 26 ∨ (l.length ≤ 3 ∧ opsD (mkD op w0 imm l) = l)) (hv : IntsAt w lo u l) :
  Calls Tryz.prog 106 #[.int .i64 op, .int .i64 w0, .int .i64 imm, .slice u l.length q] w fun e w' => ∃ (r : InstD) (ru : Option Addr) (rq : Nat), e = .returned (.agg #[.int .i64 r.op, .int .i64 r.w, .int .i64 r.a, .int .i64 r.b, .int .i64 r.c, .int .i64 r.imm, .slice ru r.args.length rq]) ∧ r = mkD op w0 imm l ∧ ((op = 26 ∧ ru = u ∧ rq = q) ∨ (¬ op = 26 ∧ ru = none ∧ rq = 0)) ∧ Below w.heap.size w w' := by
 by_cases ho : op = 26
 ·subst ho
  refine (instOf26 w0 imm u q l w).mono ?_
  rintro e w1 ⟨rfl, b1⟩
  exact ⟨⟨26, w0, 0, 0, 0, imm, l⟩, u, q, rfl, rfl, .inl ⟨rfl, rfl, rfl⟩, b1⟩
 ·obtain ⟨h1, h2⟩ := hl.resolve_left ho
  refine (instOfX op w0 imm lo u q l w ho h1 hv h2).mono ?_
  rintro e w1 ⟨rfl, b1⟩
  exact ⟨⟨op, w0, l.getD 0 0, l.getD 1 0, l.getD 2 0, imm, []⟩, none, 0, rfl, by unfold mkD; rw [if_neg ho], .inr ⟨ho, rfl, rfl⟩, b1⟩
theorem row7 {w : World} {g : Nat} {T : TypeId} {v0 v1 v2 v3 v4 v5 v6 : Value} (h : w.heap[g]? = some (.cells #[v0, v1, v2, v3, v4, v5, v6] T (0, 0))) : w.cell? ⟨g, 0, none⟩ = some v0 ∧ w.cell? ⟨g, 1, none⟩ = some v1 ∧ w.cell? ⟨g, 2, none⟩ = some v2 ∧ w.cell? ⟨g, 3, none⟩ = some v3 ∧ w.cell? ⟨g, 4, none⟩ = some v4 ∧ w.cell? ⟨g, 5, none⟩ = some v5 ∧ w.cell? ⟨g, 6, none⟩ = some v6 :=
 ⟨(cell_of_heap h).trans rfl, (cell_of_heap h).trans rfl, (cell_of_heap h).trans rfl, (cell_of_heap h).trans rfl, (cell_of_heap h).trans rfl, (cell_of_heap h).trans rfl, (cell_of_heap h).trans rfl⟩
def InstNew (w : World) (base : Nat) (r : InstD) (e : Ending) : Prop := ∃ (ru : Option Addr) (rq : Nat), e = .returned (.agg #[.int .i64 r.op, .int .i64 r.w, .int .i64 r.a, .int .i64 r.b, .int .i64 r.c, .int .i64 r.imm, .slice ru r.args.length rq]) ∧ Row w base (.slice ru r.args.length rq) r.args
theorem mk_args {op w imm : Int} {l : List Int} : (op = 26 → (mkD op w imm l).args = l) ∧ (¬ op = 26 → (mkD op w imm l).args = []) := by
 refine ⟨fun h => ?_, fun h => ?_⟩
 ·unfold mkD; rw [if_pos h]
 ·unfold mkD; rw [if_neg h]
set_option maxHeartbeats 8000000 in
set_option maxRecDepth 100000 in
theorem ofInstI (B lo : Nat) (ρ : Int → Int) (i : InstD) (ua : Option Addr) (qa : Nat) (w : World) (hR : RenAt w B ρ) (ku : IntsAt w lo ua i.args) (hA : i.args.length ≤ 1000) (hn : (opsD i).length ≤ 1000) (hr : ∀ x ∈ opsD i, 0 ≤ x ∧ x ≤ 100000) (hl : i.op = 26 ∨ (((opsD i).map ρ).length ≤ 3 ∧ opsD (mkD i.op i.w i.imm ((opsD i).map ρ)) = (opsD i).map ρ)) :
  Calls Tryz.prog 65 #[.map (some B), .agg #[.int .i64 i.op, .int .i64 i.w, .int .i64 i.a, .int .i64 i.b, .int .i64 i.c, .int .i64 i.imm, .slice ua i.args.length qa]] w fun e w' => InstNew w' w.heap.size (mkD i.op i.w i.imm ((opsD i).map ρ)) e ∧ Below w.heap.size w w' := by
 have hb0 : ((w.alloc (.cells #[.int .i64 i.op, .int .i64 i.w, .int .i64 i.a, .int .i64 i.b, .int .i64 i.c, .int .i64 i.imm, .slice ua i.args.length qa] 29)).alloc (.cells #[.int .i64 0, .int .i64 0, .int .i64 0, .int .i64 0, .int .i64 0, .int .i64 0, .slice none 0 0] 29)).heap[w.heap.size]? = some (.cells #[.int .i64 i.op, .int .i64 i.w, .int .i64 i.a, .int .i64 i.b, .int .i64 i.c, .int .i64 i.imm, .slice ua i.args.length qa] 29 (0, 0)) := (Below.heap_alloc _ _ _ (by simp)).trans (heap_alloc_last _ _)
 have hz0 : ((w.alloc (.cells #[.int .i64 i.op, .int .i64 i.w, .int .i64 i.a, .int .i64 i.b, .int .i64 i.c, .int .i64 i.imm, .slice ua i.args.length qa] 29)).alloc (.cells #[.int .i64 0, .int .i64 0, .int .i64 0, .int .i64 0, .int .i64 0, .int .i64 0, .slice none 0 0] 29)).heap[w.heap.size + 1]? = some (.cells #[.int .i64 0, .int .i64 0, .int .i64 0, .int .i64 0, .int .i64 0, .int .i64 0, .slice none 0 0] 29 (0, 0)) := heap_two2 _ _ _
 have bb0 : Below w.heap.size w ((w.alloc (.cells #[.int .i64 i.op, .int .i64 i.w, .int .i64 i.a, .int .i64 i.b, .int .i64 i.c, .int .i64 i.imm, .slice ua i.args.length qa] 29)).alloc (.cells #[.int .i64 0, .int .i64 0, .int .i64 0, .int .i64 0, .int .i64 0, .int .i64 0, .slice none 0 0] 29)) := ((Below.refl _ _).alloc (Nat.le_refl _) _).alloc (by simp) _
 have HB0 : Hid (Below w.heap.size w _) := bb0
 have HZ0 : Hid (_ = _) := hz0
 have HI0 : Hid (_ = _) := hb0
 have OP := fun W (k : Below w.heap.size w W) => operI lo i ua qa W (by omega) (ku.keep (agree_of_below k lo))
 have HR : Hid (RenAt w B ρ) := hR
 have HX : Hid (∀ x ∈ opsD i, 0 ≤ x ∧ x ≤ 100000) := hr
 obtain ⟨L, hLL⟩ : ∃ L, (opsD i).map ρ = L := ⟨_, rfl⟩
 have hLl : L.length ≤ 1000 := by rw [← hLL, List.length_map]; exact hn
 have HLL : Hid ((opsD i).map ρ = L) := hLL
 have HL : Hid (i.op = 26 ∨ (L.length ≤ 3 ∧ opsD (mkD i.op i.w i.imm L) = L)) := by rw [hLL] at hl; exact hl
 clear hLL
 clear hb0 hz0 bb0 hR ku hr hl
 go_enter Tryz.func65, Tryz.ntmps65
 go_wp2_with fail
 refine wp_region_held_drew (S := fun w' => w'.heap[w.heap.size]? = some (.cells #[.int .i64 i.op, .int .i64 i.w, .int .i64 i.a, .int .i64 i.b, .int .i64 i.c, .int .i64 i.imm, .slice ua i.args.length qa] 29 (0, 0))) (by kernel_rfl) (show _ = _ from HI0.out) (fun hHeld => ?_)
 refine wpAnyH_take (i := 0) (v := ?_) rfl (by kernel_rfl) (by kernel_rfl) (by kernel_rfl) (fun _ _ _ h => h) (Or.inl ⟨by rfl, ?_⟩) hHeld ?_
 rotate_left
 ·intro w9 hS9
  go_simp
  try with_reducible rfl
 show wpAnyH _ _ _ _ _ _ _ (Act.put _ (some _) _) _
 simp only [Act.put, List.setIfInBounds_toArray, List.set_cons_zero, List.set_cons_succ]
 refine wpAnyH_take (i := 1) (v := ?_) rfl (by kernel_rfl) (by kernel_rfl) (by kernel_rfl) (fun _ _ _ h => h) (Or.inl ⟨by rfl, ?_⟩) hHeld ?_
 rotate_left
 ·intro w9 hS9
  have g0 := (row7 hS9).1
  go_simp
  try with_reducible rfl
 show wpAnyH _ _ _ _ _ _ _ (Act.put _ (some _) _) _
 simp only [Act.put, List.setIfInBounds_toArray, List.set_cons_zero, List.set_cons_succ]
 refine wpAnyH_take (i := 2) (v := ?_) rfl (by kernel_rfl) (by kernel_rfl) (by kernel_rfl) (fun _ _ _ h => h) (Or.inl ⟨by rfl, ?_⟩) hHeld ?_
 rotate_left
 ·intro w9 hS9
  go_simp
  try with_reducible rfl
 show wpAnyH _ _ _ _ _ _ _ (Act.put _ (some _) _) _
 simp only [Act.put, List.setIfInBounds_toArray, List.set_cons_zero, List.set_cons_succ]
 refine wpAnyH_take (i := 3) (v := ?_) rfl (by kernel_rfl) (by kernel_rfl) (by kernel_rfl) (fun _ _ _ h => h) (Or.inl ⟨by rfl, ?_⟩) hHeld ?_
 rotate_left
 ·intro w9 hS9
  have g0 := (row7 hS9).2.1
  go_simp
  try with_reducible rfl
 show wpAnyH _ _ _ _ _ _ _ (Act.put _ (some _) _) _
 simp only [Act.put, List.setIfInBounds_toArray, List.set_cons_zero, List.set_cons_succ]
 refine wpAnyH_take (i := 4) (v := ?_) rfl (by kernel_rfl) (by kernel_rfl) (by kernel_rfl) (fun _ _ _ h => h) (Or.inl ⟨by rfl, ?_⟩) hHeld ?_
 rotate_left
 ·intro w9 hS9
  go_simp
  try with_reducible rfl
 show wpAnyH _ _ _ _ _ _ _ (Act.put _ (some _) _) _
 simp only [Act.put, List.setIfInBounds_toArray, List.set_cons_zero, List.set_cons_succ]
 refine wpAnyH_take (i := 5) (v := ?_) rfl (by kernel_rfl) (by kernel_rfl) (by kernel_rfl) (fun _ _ _ h => h) (Or.inl ⟨by rfl, ?_⟩) hHeld ?_
 rotate_left
 ·intro w9 hS9
  have g0 := (row7 hS9).2.2.2.2.2.1
  go_simp
  try with_reducible rfl
 show wpAnyH _ _ _ _ _ _ _ (Act.put _ (some _) _) _
 simp only [Act.put, List.setIfInBounds_toArray, List.set_cons_zero, List.set_cons_succ]
 refine wpAnyH_take (i := 6) (v := ?_) rfl (by kernel_rfl) (by kernel_rfl) (by kernel_rfl) (fun _ _ _ h => h) (Or.inl ⟨by rfl, ?_⟩) hHeld ?_
 rotate_left
 ·intro w9 hS9
  go_simp
  try with_reducible rfl
 show wpAnyH _ _ _ _ _ _ _ (Act.put _ (some _) _) _
 simp only [Act.put, List.setIfInBounds_toArray, List.set_cons_zero, List.set_cons_succ]
 refine wpAnyH_take (i := 7) (v := ?_) rfl (by kernel_rfl) (by kernel_rfl) (by kernel_rfl) (fun _ _ _ h => h) (Or.inl ⟨by rfl, ?_⟩) hHeld ?_
 rotate_left
 ·intro w9 hS9
  have g0 := (row7 hS9).1
  have g1 := (row7 hS9).2.1
  have g2 := (row7 hS9).2.2.1
  have g3 := (row7 hS9).2.2.2.1
  have g4 := (row7 hS9).2.2.2.2.1
  have g5 := (row7 hS9).2.2.2.2.2.1
  have g6 := (row7 hS9).2.2.2.2.2.2
  go_simp
  try with_reducible rfl
 show wpAnyH _ _ _ _ _ _ _ (Act.put _ (some _) _) _
 simp only [Act.put, List.setIfInBounds_toArray, List.set_cons_zero, List.set_cons_succ]
 refine wpAnyH_ready (rs := [8]) (by kernel_rfl) (by simp) ?_
 refine AllReadyH.cons rfl (fun K hK => ?_) AllReadyH.nil
 go_simp
 go_wp2_with (go_at_call 108; refine (OP _ (by exact HB0.out.drew)).mono ?_; rintro e w3 ⟨v3, q3, rfl, o3, b3⟩)
 refine hK.out _ _ ?_ (fun hHeld2 => ?_)
 ·exact (b3.block _ (Array.getElem?_eq_some_iff.1 hHeld).1).trans hHeld
 clear hK K hHeld
 have hHeld := hHeld2
 clear hHeld2
 try simp only [Act.put, List.setIfInBounds_toArray, List.set_cons_zero, List.set_cons_succ]
 have HB3 : Hid (Below w.heap.size w w3) := (HB0.out.drew).trans (b3.mono HB0.out.size)
 have HZ3 : Hid (w3.heap[w.heap.size + 1]? = some (.cells #[.int .i64 0, .int .i64 0, .int .i64 0, .int .i64 0, .int .i64 0, .int .i64 0, .slice none 0 0] 29 (0, 0))) := (b3.block _ (Array.getElem?_eq_some_iff.1 HZ0.out).1).trans HZ0.out
 have OF := ofIdsI B _ ρ v3 q3 (opsD i) w3 (HR.out.below HB3.out) o3.ints hn HX.out
 rw [HLL.out] at OF
 clear b3 o3 HB0 HZ0 HI0
 refine wpAnyH_ready (rs := [9]) (by kernel_rfl) (by simp) ?_
 refine AllReadyH.cons rfl (fun K hK => ?_) AllReadyH.nil
 go_simp
 go_wp2_with (go_at_call 107; refine (OF).mono ?_; rintro e w4 ⟨v4, rfl, r4, b4⟩; obtain ⟨u4, q4, he4⟩ := r4.slice; subst he4)
 refine hK.out _ _ ?_ (fun hHeld2 => ?_)
 ·exact (b4.block _ (Array.getElem?_eq_some_iff.1 hHeld).1).trans hHeld
 clear hK K hHeld
 have hHeld := hHeld2
 clear hHeld2
 try simp only [Act.put, List.setIfInBounds_toArray, List.set_cons_zero, List.set_cons_succ]
 have HB4 : Hid (Below w.heap.size w w4) := HB3.out.trans (b4.mono HB3.out.size)
 have HZ4 : Hid (w4.heap[w.heap.size + 1]? = some (.cells #[.int .i64 0, .int .i64 0, .int .i64 0, .int .i64 0, .int .i64 0, .int .i64 0, .slice none 0 0] 29 (0, 0))) := (b4.block _ (Array.getElem?_eq_some_iff.1 HZ3.out).1).trans HZ3.out
 have HW4 : Hid (Row w4 w3.heap.size (.slice u4 L.length q4) L) := r4
 have hz3 := HB3.out.size
 obtain ⟨ui, ci, hvi, iv4⟩ := r4.ints (by omega)
 have hui : ui = u4 := by injection hvi with e1 _ _; exact e1.symm
 subst hui
 have IO := instOfI i.op i.w i.imm w3.heap.size ui q4 L w4 HL.out iv4
 clear b4 r4 OF hvi iv4
 refine wpAnyH_ready (rs := [10]) (by kernel_rfl) (by simp) ?_
 refine AllReadyH.cons rfl (fun K hK => ?_) AllReadyH.nil
 go_simp
 go_wp2_with (go_at_call 106; refine (IO).mono ?_; rintro e w5 ⟨r, ru, rq, rfl, hrr, hru, b5⟩; have HRR : Hid (r = _) := hrr; have HRU : Hid _ := hru; clear hrr hru)
 refine hK.out _ _ ?_ (fun hHeld2 => ?_)
 ·exact (b5.block _ (Array.getElem?_eq_some_iff.1 hHeld).1).trans hHeld
 clear hK K hHeld
 have hHeld := hHeld2
 clear hHeld2
 try simp only [Act.put, List.setIfInBounds_toArray, List.set_cons_zero, List.set_cons_succ]
 have HB5 : Hid (Below w.heap.size w w5) := HB4.out.trans (b5.mono HB4.out.size)
 have HZ5 : Hid (w5.heap[w.heap.size + 1]? = some (.cells #[.int .i64 0, .int .i64 0, .int .i64 0, .int .i64 0, .int .i64 0, .int .i64 0, .slice none 0 0] 29 (0, 0))) := (b5.block _ (Array.getElem?_eq_some_iff.1 HZ4.out).1).trans HZ4.out
 have HW5 : Hid (Row w5 w3.heap.size (.slice ui L.length q4) L) := HW4.out.keep b5
 obtain ⟨r0, r1, r2, r3, r4, r5, r6⟩ := row7 HZ5.out
 have rf : ∀ o, w5.frozen? ⟨w.heap.size + 1, o, none⟩ = false := fun o => froz_of_heap HZ5.out
 clear b5 IO
 refine wpAnyH_ready (rs := [11]) (by kernel_rfl) (by simp) ?_
 refine AllReadyH.cons rfl (fun K hK => ?_) AllReadyH.nil
 go_simp
 go_wp2_with fail
 refine hK.out _ _ ?_ (fun hHeld2 => ?_)
 ·exact (by repeat (first | refine (Below.heap_setCell _ _ _ _ (by show w.heap.size ≠ w.heap.size + 1; omega)).trans ?_ | exact hHeld))
 clear hK K hHeld
 have hHeld := hHeld2
 clear hHeld2
 try simp only [Act.put, List.setIfInBounds_toArray, List.set_cons_zero, List.set_cons_succ]
 refine wpAnyH_done (by kernel_rfl) ?_ _
 go_wp2_with fail
 have hr := (heap_set (o := 6) (v := .slice ru r.args.length rq) (heap_set (o := 5) (v := .int .i64 r.imm) (heap_set (o := 4) (v := .int .i64 r.c) (heap_set (o := 3) (v := .int .i64 r.b) (heap_set (o := 2) (v := .int .i64 r.a) (heap_set (o := 1) (v := .int .i64 r.w) (heap_set (o := 0) (v := .int .i64 r.op) HZ5.out)))))))
 refine bodyPost_ret (v := .agg #[.int .i64 r.op, .int .i64 r.w, .int .i64 r.a, .int .i64 r.b, .int .i64 r.c, .int .i64 r.imm, .slice ru r.args.length rq]) ((results_cell_row Tryz.results65 _ _ (w.heap.size + 1) 29 _ (0, 0) _ rfl hr Tryz.underlying29 rfl (by kernel_rfl)).trans (by rfl)) rfl ⟨?_, ?_⟩
 ·have hr2 := HRR.out
  rw [HLL.out, ← hr2]
  refine ⟨ru, rq, rfl, ?_⟩
  rcases HRU.out with ⟨h1, h2, h3⟩ | ⟨h1, h2, h3⟩
  ·have ha : r.args = L := by rw [hr2]; exact mk_args.1 h1
   rw [ha, h2, h3]
   refine (HW5.out.low hz3).block ?_
   intro g hg hgl
   have hge := HW5.out.ge hg
   have hne : g ≠ w.heap.size + 1 := by
    have := (Array.getElem?_eq_some_iff.1 HZ3.out).1
    omega
   exact (by repeat (first | refine (Below.heap_setCell _ _ _ _ (by show g ≠ w.heap.size + 1; exact hne)).trans ?_ | rfl))
  ·have ha : r.args = [] := by rw [hr2]; exact mk_args.2 h1
   rw [ha, h2, h3]
   exact Row.nil _ _
 ·exact (by repeat (first | refine Below.setCell ?_ (by dsimp only; omega) _ | exact HB5.out))
end Go.Proofs.YtoknhppjdmoblaaGreatDoor
