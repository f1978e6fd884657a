/- A machine: the contract of the program's MachineRun, where it runs. -/
import Derived.Test.YtofgfiakccjimaaMaK
namespace Go.Proofs.Ytofgfiakccjimaa
open Go.RowKit
set_option linter.unusedVariables false
set_option linter.unusedSimpArgs false

theorem frame68 (t : Array Value) (h : t.size = 68) : t = #[t.getD 0 undef, t.getD 1 undef, t.getD 2 undef, t.getD 3 undef, t.getD 4 undef, t.getD 5 undef, t.getD 6 undef, t.getD 7 undef, t.getD 8 undef, t.getD 9 undef, t.getD 10 undef, t.getD 11 undef, t.getD 12 undef, t.getD 13 undef, t.getD 14 undef, t.getD 15 undef, t.getD 16 undef, t.getD 17 undef, t.getD 18 undef, t.getD 19 undef, t.getD 20 undef, t.getD 21 undef, t.getD 22 undef, t.getD 23 undef, t.getD 24 undef, t.getD 25 undef, t.getD 26 undef, t.getD 27 undef, t.getD 28 undef, t.getD 29 undef, t.getD 30 undef, t.getD 31 undef, t.getD 32 undef, t.getD 33 undef, t.getD 34 undef, t.getD 35 undef, t.getD 36 undef, t.getD 37 undef, t.getD 38 undef, t.getD 39 undef, t.getD 40 undef, t.getD 41 undef, t.getD 42 undef, t.getD 43 undef, t.getD 44 undef, t.getD 45 undef, t.getD 46 undef, t.getD 47 undef, t.getD 48 undef, t.getD 49 undef, t.getD 50 undef, t.getD 51 undef, t.getD 52 undef, t.getD 53 undef, t.getD 54 undef, t.getD 55 undef, t.getD 56 undef, t.getD 57 undef, t.getD 58 undef, t.getD 59 undef, t.getD 60 undef, t.getD 61 undef, t.getD 62 undef, t.getD 63 undef, t.getD 64 undef, t.getD 65 undef, t.getD 66 undef, t.getD 67 undef] := by
  apply Array.ext
  · rw [h]; rfl
  · intro i h1 h2
    have h3 : i < 68 := by omega
    match i, h1, h2, h3 with
    | 0, h1, _, _ => exact (getD_some h1).symm
    | 1, h1, _, _ => exact (getD_some h1).symm
    | 2, h1, _, _ => exact (getD_some h1).symm
    | 3, h1, _, _ => exact (getD_some h1).symm
    | 4, h1, _, _ => exact (getD_some h1).symm
    | 5, h1, _, _ => exact (getD_some h1).symm
    | 6, h1, _, _ => exact (getD_some h1).symm
    | 7, h1, _, _ => exact (getD_some h1).symm
    | 8, h1, _, _ => exact (getD_some h1).symm
    | 9, h1, _, _ => exact (getD_some h1).symm
    | 10, h1, _, _ => exact (getD_some h1).symm
    | 11, h1, _, _ => exact (getD_some h1).symm
    | 12, h1, _, _ => exact (getD_some h1).symm
    | 13, h1, _, _ => exact (getD_some h1).symm
    | 14, h1, _, _ => exact (getD_some h1).symm
    | 15, h1, _, _ => exact (getD_some h1).symm
    | 16, h1, _, _ => exact (getD_some h1).symm
    | 17, h1, _, _ => exact (getD_some h1).symm
    | 18, h1, _, _ => exact (getD_some h1).symm
    | 19, h1, _, _ => exact (getD_some h1).symm
    | 20, h1, _, _ => exact (getD_some h1).symm
    | 21, h1, _, _ => exact (getD_some h1).symm
    | 22, h1, _, _ => exact (getD_some h1).symm
    | 23, h1, _, _ => exact (getD_some h1).symm
    | 24, h1, _, _ => exact (getD_some h1).symm
    | 25, h1, _, _ => exact (getD_some h1).symm
    | 26, h1, _, _ => exact (getD_some h1).symm
    | 27, h1, _, _ => exact (getD_some h1).symm
    | 28, h1, _, _ => exact (getD_some h1).symm
    | 29, h1, _, _ => exact (getD_some h1).symm
    | 30, h1, _, _ => exact (getD_some h1).symm
    | 31, h1, _, _ => exact (getD_some h1).symm
    | 32, h1, _, _ => exact (getD_some h1).symm
    | 33, h1, _, _ => exact (getD_some h1).symm
    | 34, h1, _, _ => exact (getD_some h1).symm
    | 35, h1, _, _ => exact (getD_some h1).symm
    | 36, h1, _, _ => exact (getD_some h1).symm
    | 37, h1, _, _ => exact (getD_some h1).symm
    | 38, h1, _, _ => exact (getD_some h1).symm
    | 39, h1, _, _ => exact (getD_some h1).symm
    | 40, h1, _, _ => exact (getD_some h1).symm
    | 41, h1, _, _ => exact (getD_some h1).symm
    | 42, h1, _, _ => exact (getD_some h1).symm
    | 43, h1, _, _ => exact (getD_some h1).symm
    | 44, h1, _, _ => exact (getD_some h1).symm
    | 45, h1, _, _ => exact (getD_some h1).symm
    | 46, h1, _, _ => exact (getD_some h1).symm
    | 47, h1, _, _ => exact (getD_some h1).symm
    | 48, h1, _, _ => exact (getD_some h1).symm
    | 49, h1, _, _ => exact (getD_some h1).symm
    | 50, h1, _, _ => exact (getD_some h1).symm
    | 51, h1, _, _ => exact (getD_some h1).symm
    | 52, h1, _, _ => exact (getD_some h1).symm
    | 53, h1, _, _ => exact (getD_some h1).symm
    | 54, h1, _, _ => exact (getD_some h1).symm
    | 55, h1, _, _ => exact (getD_some h1).symm
    | 56, h1, _, _ => exact (getD_some h1).symm
    | 57, h1, _, _ => exact (getD_some h1).symm
    | 58, h1, _, _ => exact (getD_some h1).symm
    | 59, h1, _, _ => exact (getD_some h1).symm
    | 60, h1, _, _ => exact (getD_some h1).symm
    | 61, h1, _, _ => exact (getD_some h1).symm
    | 62, h1, _, _ => exact (getD_some h1).symm
    | 63, h1, _, _ => exact (getD_some h1).symm
    | 64, h1, _, _ => exact (getD_some h1).symm
    | 65, h1, _, _ => exact (getD_some h1).symm
    | 66, h1, _, _ => exact (getD_some h1).symm
    | 67, h1, _, _ => exact (getD_some h1).symm
    | n + 68, _, _, h3 => exact absurd h3 (by omega)
theorem frame68_f (t : Array Value) (h : t.size = 68) : ∃ f : Nat → Value, t = #[f 0, f 1, f 2, f 3, f 4, f 5, f 6, f 7, f 8, f 9, f 10, f 11, f 12, f 13, f 14, f 15, f 16, f 17, f 18, f 19, f 20, f 21, f 22, f 23, f 24, f 25, f 26, f 27, f 28, f 29, f 30, f 31, f 32, f 33, f 34, f 35, f 36, f 37, f 38, f 39, f 40, f 41, f 42, f 43, f 44, f 45, f 46, f 47, f 48, f 49, f 50, f 51, f 52, f 53, f 54, f 55, f 56, f 57, f 58, f 59, f 60, f 61, f 62, f 63, f 64, f 65, f 66, f 67] := ⟨fun k => t.getD k undef, frame68 t h⟩
structure ProgP (p : ProgD) : Prop where
  r1 : 1 ≤ p.regs
  r2 : p.regs ≤ 130
  p4 : p.params.length ≤ 4
  par : ∀ k, k < p.params.length → 0 ≤ p.params.getD k 0 ∧ p.params.getD k 0 < p.regs
  wid : p.widths.length = p.params.length
  c1 : 1 ≤ p.code.length
  c2 : p.code.length ≤ 600
  last : goesB (p.code.getD (p.code.length - 1) mins0).op = false
  ins : ∀ k, k < p.code.length → minsB (p.code.getD k mins0) p.regs p.code.length = true
theorem all_get {α : Type} (z : α) {f : α → Bool} {l : List α} (h : l.all f = true) (k : Nat) (hk : k < l.length) : f (l.getD k z) = true := by
  rw [List.all_eq_true] at h
  exact h _ (getD_mem z l k hk)
theorem prog_parts {p : ProgD} (h : progB p = true) : ProgP p := by
  simp only [progB, codeB, Bool.and_eq_true, decide_eq_true_eq, Bool.not_eq_true'] at h
  obtain ⟨⟨a1, a2⟩, a3, a4, a5, _, a6, a7, a8, a9⟩ := h
  exact ⟨a1, a2, a3, fun k hk => below_yes (all_get 0 a4 k hk), a5, a6, a7, a8, fun k hk => all_get mins0 a9 k hk⟩
theorem regsK_rng {ws ps xs : List Int} (hv : ∀ k, k < xs.length → valueB (ws.getD k 0) (xs.getD k 0) = true) : ∀ k, k ≤ xs.length → ∀ j, 0 ≤ regsK ps xs k j ∧ regsK ps xs k j ≤ 4294967295
  | 0, _, j => by show (0 : Int) ≤ 0 ∧ (0 : Int) ≤ _; omega
  | k + 1, hk, j => by
    show 0 ≤ upF _ _ _ j ∧ upF _ _ _ j ≤ _
    unfold upF
    split
    · obtain ⟨_, h0, h1⟩ := value_yes (hv k (by omega))
      have := top_pos (ws.getD k 0)
      omega
    · exact regsK_rng hv k (by omega) j
theorem start_good {p : ProgD} {args : List Int} {mem : ByteArray} (h : ProgP p) (hv : valsB p.widths args = true) : Good (startM p args mem) := by
  obtain ⟨hl, hv⟩ := vals_get hv
  have := h.wid
  exact ⟨fun j _ => regsK_rng hv _ (by omega) j, fun j _ => memF_rng mem j, by show ([] : List Int).length ≤ 30; simp, by show (0 : Int) ≤ 0; omega⟩
theorem run_good {l : List MInsD} {R : Int} (h1 : 1 ≤ R) (h2 : R ≤ 130) (hok : ∀ i, i < l.length → minsB (l.getD i mins0) R l.length = true) (hlast : goesB (l.getD (l.length - 1) mins0).op = false) : ∀ (n : Nat) (s : MSt), Good s → 0 ≤ s.pc → s.pc < l.length → Good (runM l n s).st
  | 0, s, g, _, _ => g
  | n + 1, s, g, p0, p1 => by
    have hi := hok s.pc.toNat (by omega)
    have hnx : goesB (l.getD s.pc.toNat mins0).op = true → s.pc + 1 < l.length := fun hg => by
      by_cases e : s.pc.toNat = l.length - 1
      · rw [e, hlast] at hg; cases hg
      · omega
    unfold runM
    generalize l.getD s.pc.toNat mins0 = i at hi hnx
    have g5 : ∀ q : Int, Good { s with steps := s.steps + 1, pc := q } := fun q => ⟨g.regs, g.mem, g.out, by have := g.steps; show 0 ≤ s.steps + 1; omega⟩
    by_cases e1 : i.op = 31
    · rw [if_pos e1]
      have := jump_imm h1 hi (.inl e1)
      exact run_good h1 h2 hok hlast n _ (g5 _) this.1 this.2
    rw [if_neg e1]
    by_cases e2 : i.op = 32
    · rw [if_pos e2]
      split
      · have := jump_imm h1 hi (.inr e2)
        exact run_good h1 h2 hok hlast n _ (g5 _) this.1 this.2
      · exact run_good h1 h2 hok hlast n _ (g5 _) (by show (0 : Int) ≤ s.pc + 1; omega) (hnx (by rw [e2]; rfl))
    rw [if_neg e2]
    by_cases e3 : i.op = 33
    · rw [if_pos e3]; exact g5 _
    rw [if_neg e3]
    by_cases e4 : i.op = 34
    · rw [if_pos e4]; exact g5 _
    rw [if_neg e4]
    have wp := work_pc i { s with steps := s.steps + 1, pc := s.pc + 1 }
    split
    · exact run_good h1 h2 hok hlast n _ (work_good h1 h2 hi (g5 _)) (by rw [wp.1]; show (0 : Int) ≤ s.pc + 1; omega) (by rw [wp.1]; exact hnx (by simp [goesB, e1, e3, e4]))
    · exact g5 _
theorem below_set {w w1 : World} {B g : Nat} (h : Below B w w1) (cs : Array Value) (hg : B ≤ g) : Below B w (w1.setRow g cs) := ⟨h.os, h.tape, h.output, by simpa using h.size, fun b hb => (setRow_other _ _ _ _ (by omega)).trans (h.block b hb)⟩
set_option maxHeartbeats 4000000 in
set_option maxRecDepth 100000 in
theorem machI_x (lo : Nat) (p : ProgD) (s1 : Option Addr) (c1 : Nat) (s2 : Option Addr) (c2 : Nat) (s3 : Option Addr) (c3 : Nat) (s4 : Option Addr) (c4 : Nat) (args : List Int) (mem : ByteArray) (fuel : Int) (w : World) (k1 : IntsAt w lo s1 p.params) (k2 : IntsAt w lo s2 p.widths) (k3 : MinsAt w lo s3 p.code) (k4 : IntsAt w lo s4 args) (hmsz : mem.size ≤ 1048576) (hp : progB p = true) (hv : valsB p.widths args = true) (hm : mem.size = 32) (f0 : 0 ≤ fuel) (f1 : fuel ≤ 20000) :
    Calls Try.prog 15 #[.agg #[.int .i64 p.regs, .slice s1 p.params.length c1, .slice s2 p.widths.length c2, .slice s3 p.code.length c3], .slice s4 args.length c4, .string mem, .int .i64 fuel] w fun e w' => (∃ u q, e = .returned (resA (machR p args mem fuel) u q) ∧ w'.ownsRow w.heap.size 2 1 (.slice u (machR p args mem fuel).out.length q) (machR p args mem fuel).out.length ((machR p args mem fuel).out.map (Value.int .i64))) ∧ Below w.heap.size w w' := by
  have E : Hid (okM p args mem fuel = true) := by show _ = _; simp [okM, hp, hv, hm, f0, f1]
  have hmz := hmsz
  obtain ⟨W1, hW1⟩ : ∃ W1, W1 = (w.alloc (.cells #[.int .i64 p.regs, .slice s1 p.params.length c1, .slice s2 p.widths.length c2, .slice s3 p.code.length c3] 30)).alloc (.cells #[.int .i64 0, .int .i64 0, .slice none 0 0, .string ⟨#[]⟩, .int .i64 0] 36) := ⟨_, rfl⟩
  have B1 : Below w.heap.size w W1 := by rw [hW1]; exact ((Below.refl _ _).alloc (Nat.le_refl _) _).alloc (by simp) _
  have PI := progI lo p s1 c1 s2 c2 s3 c3 W1 (k1.keep (agree_of_below B1 lo)) (k2.keep (agree_of_below B1 lo)) (k3.keep (agree_of_below B1 lo))
  have hz1 : w.heap.size + 2 = W1.heap.size := by rw [hW1]; simp
  have X1 : BoxP W1 w.heap.size p s1 c1 s2 c2 s3 c3 := by rw [hW1]; exact (BoxP.new w p s1 c1 s2 c2 s3 c3 _).below ((Below.refl _ _).alloc (Nat.le_refl _) _)
  have R1 : W1.heap[w.heap.size + 1]? = some (.cells #[.int .i64 0, .int .i64 0, .slice none 0 0, .string ⟨#[]⟩, .int .i64 0] 36 (0, 0)) := by rw [hW1]; exact heap_new2 _ _ _
  rw [hp] at PI
  have hm2 : (mem.size : Int) = 32 := by omega
  have f0' : ¬ fuel < 0 := by omega
  have f1' : ¬ 20000 < fuel := by omega
  go_enter Try.func15, Try.ntmps15
  go_upto_region 1 with fail
  rw [← hW1]
  clear hW1
  have XX := X1
  obtain ⟨_, y0, y1, y2, y3⟩ := XX
  go_wp2_with (first | (go_at_call 9; refine PI.mono ?_; rintro e w2 ⟨rfl, hb2⟩; have X2 := X1.below hb2; obtain ⟨hx2, x0, x1, x2, x3⟩ := X2; have R2 := row_below R1 hb2; have r0 := (cell_of_heap (o := 0) R2).trans rfl; have r1 := (cell_of_heap (o := 1) R2).trans rfl; have r2 := (cell_of_heap (o := 2) R2).trans rfl; have r3 := (cell_of_heap (o := 3) R2).trans rfl; have r4 := (cell_of_heap (o := 4) R2).trans rfl; have z0 : w2.frozen? ⟨w.heap.size + 1, 0, none⟩ = false := froz_of_heap R2; have z1 : w2.frozen? ⟨w.heap.size + 1, 1, none⟩ = false := froz_of_heap R2; have z2 : w2.frozen? ⟨w.heap.size + 1, 2, none⟩ = false := froz_of_heap R2; have z3 : w2.frozen? ⟨w.heap.size + 1, 3, none⟩ = false := froz_of_heap R2; have z4 : w2.frozen? ⟨w.heap.size + 1, 4, none⟩ = false := froz_of_heap R2; have HR2 : Hid (w2.heap[w.heap.size + 1]? = some (.cells #[.int .i64 0, .int .i64 0, .slice none 0 0, .string ⟨#[]⟩, .int .i64 0] 36 (0, 0))) := R2; clear R2; have VI := valuesI lo lo s2 s4 c2 c4 p.widths args w2 ((k2.keep (agree_of_below B1 lo)).keep (agree_of_below hb2 lo)) ((k4.keep (agree_of_below B1 lo)).keep (agree_of_below hb2 lo)); rw [hv] at VI) | (go_at_call 39; refine VI.mono ?_; rintro e w9 ⟨rfl, h9⟩; have h8 := h9.symm; clear h9; subst h8))
  refine wp_mono (Q := (fun e a' W => e = .normal ∧ ∃ M cur, (a'.defers = [] ∧ a'.tmps.size = 68 ∧ a'.tmps.getD 1 undef = .slice s4 args.length c4 ∧ a'.tmps.getD 4 undef = .pointer (some ⟨w.heap.size, 0, none⟩) ∧ a'.tmps.getD 8 undef = .pointer (some ⟨w.heap.size + 1, 0, none⟩) ∧ a'.tmps.getD 9 undef = .pointer (some ⟨M, 0, none⟩)) ∧ w2.heap.size ≤ M ∧ W.heap[M]? = some (.cells cur 78 (0, 0)) ∧ RowM cur ⟨memF mem, [], 0, fun _ => 0, 0⟩ fuel (.slice none 0 0) (.slice s3 p.code.length c3) ∧ Below w2.heap.size w2 W)) ?_ ?_
  · refine wp_region_held_drew (S := fun w' => Below w2.heap.size w2 w') (by kernel_rfl) ((Below.refl _ _).drew) (fun hHeld => ?_)
    refine wpAnyH_take (i := 0) (v := ?_) rfl (by kernel_rfl) (by kernel_rfl) (by kernel_rfl) (fun _ _ _ h => absurd h.1 (by intro e; cases e)) (Or.inl ⟨by rfl, ?_⟩) hHeld ?_
    rotate_left
    · intro w9 hS9
      go_simp
      try with_reducible rfl
    show wpAnyH _ _ _ _ _ _ _ (Act.put _ (some 38) _) _
    simp only [Act.put, List.setIfInBounds_toArray, List.set_cons_zero, List.set_cons_succ]
    refine wpAnyH_take (i := 1) (v := ?_) rfl (by kernel_rfl) (by kernel_rfl) (by kernel_rfl) (fun _ _ _ h => absurd h.1 (by intro e; cases e)) (Or.inl ⟨by rfl, ?_⟩) hHeld ?_
    rotate_left
    · intro w9 hS9
      go_simp
      try with_reducible rfl
    show wpAnyH _ _ _ _ _ _ _ (Act.put _ (some 39) _) _
    simp only [Act.put, List.setIfInBounds_toArray, List.set_cons_zero, List.set_cons_succ]
    refine wpAnyH_take (i := 3) (v := ?_) rfl (by kernel_rfl) (by kernel_rfl) (by kernel_rfl) (fun _ _ _ h => absurd h.1 (by intro e; cases e)) (Or.inl ⟨by rfl, ?_⟩) hHeld ?_
    rotate_left
    · intro w9 hS9
      go_simp
      try with_reducible rfl
    show wpAnyH _ _ _ _ _ _ _ (Act.put _ (some 41) _) _
    simp only [Act.put, List.setIfInBounds_toArray, List.set_cons_zero, List.set_cons_succ]
    refine wpAnyH_take (i := 4) (v := ?_) rfl (by kernel_rfl) (by kernel_rfl) (by kernel_rfl) (fun _ _ _ h => absurd h.1 (by intro e; cases e)) (Or.inl ⟨by rfl, ?_⟩) hHeld ?_
    rotate_left
    · intro w9 hS9
      have g3 := (bcell hS9 _ _ hx2).trans x3
      go_simp
      try with_reducible rfl
    show wpAnyH _ _ _ _ _ _ _ (Act.put _ (some 42) _) _
    simp only [Act.put, List.setIfInBounds_toArray, List.set_cons_zero, List.set_cons_succ]
    refine wpAnyH_ready (rs := [2, 6]) (by kernel_rfl) (by simp) ?_
    refine AllReadyH.cons rfl (fun K hK => ?_) (AllReadyH.cons rfl (fun K hK => ?_) AllReadyH.nil)
    · go_simp
      go_wp2_with (go_at_call 40; refine (worldI mem fuel _ hm).mono ?_; rintro e w3 ⟨⟨cs, rfl, hcs⟩, hb3⟩; have hb3s := hHeld.trans (hb3.mono hHeld.size))
      refine hK.out _ _ ?_ (fun hHeld2 => ?_)
      · exact hb3s
      clear hK K hHeld
      have hHeld := hHeld2
      clear hHeld2
      have hsz := hcs.size
      have hms := made_size hcs
      refine wpAnyH_take (i := 5) (v := ?_) rfl (by kernel_rfl) (by kernel_rfl) (by kernel_rfl) (fun _ _ _ h => absurd h.1 (by intro e; cases e)) (Or.inl ⟨by rfl, ?_⟩) hHeld ?_
      rotate_left
      · intro w9 hS9
        go_simp
        try with_reducible rfl
      show wpAnyH _ _ _ _ _ _ _ (Act.put _ (some 43) _) _
      simp only [Act.put, List.setIfInBounds_toArray, List.set_cons_zero, List.set_cons_succ]
      have HROW : Hid _ := made_row (cv := .slice s3 p.code.length c3) hcs
      generalize ((Array.foldl (fun cs x => cs.setIfInBounds x.snd x.fst) Try.zeroCells78 cs.zipIdx 0 35).setIfInBounds 35 (.slice s3 p.code.length c3)) = arr at HROW ⊢
      refine wpAnyH_ready (rs := [6]) (by kernel_rfl) (by simp) ?_
      refine AllReadyH.cons rfl (fun K hK => ?_) AllReadyH.nil
      go_simp
      refine hK.out _ _ ?_ (fun hHeld2 => ?_)
      · exact hHeld.alloc hHeld.size _
      clear hK K
      refine wpAnyH_ready (rs := [7]) (by kernel_rfl) (by simp) ?_
      refine AllReadyH.cons rfl (fun K hK => ?_) AllReadyH.nil
      rw [if_pos (by rfl)]
      refine wp_store_row 78 _ _ rfl w3.heap.size _ rfl rfl 78 _ (heap_alloc_last _ _) (by rw [info78, HROW.out.size]) (by rw [Try.zeroCells78_size, HROW.out.size]) HROW.out.one ?_
      refine hK.out _ _ ?_ (fun hHeld3 => ?_)
      · exact below_set hHeld2 _ hHeld.size
      clear hK K
      have R5 : ((w3.alloc (Obj.cells Try.zeroCells78 78)).setRow w3.heap.size arr).heap[w3.heap.size]? = some (.cells arr 78 (0, 0)) := setRow_heap _ _ _ _ _ _ (heap_alloc_last _ _)
      refine wpAnyH_done (by kernel_rfl) ?_ _
      exact ⟨rfl, w3.heap.size, arr, ⟨rfl, rfl, rfl, rfl, rfl, rfl⟩, hHeld.size, R5, HROW.out, hHeld3⟩
    · go_simp
      refine hK.out _ _ ?_ (fun hHeld2 => ?_)
      · exact hHeld.alloc hHeld.size _
      clear hK K
      refine wpAnyH_ready (rs := [2]) (by kernel_rfl) (by simp) ?_
      refine AllReadyH.cons rfl (fun K hK => ?_) AllReadyH.nil
      rw [if_pos (by rfl)]
      go_simp
      go_wp2_with (go_at_call 40; refine (worldI mem fuel _ hm).mono ?_; rintro e w3 ⟨⟨cs, rfl, hcs⟩, hb3⟩; have hb3s := hHeld2.trans (hb3.mono hHeld2.size))
      have hz3 : (w2.drew.alloc (Obj.cells Try.zeroCells78 78)).heap[w2.heap.size]? = some (.cells Try.zeroCells78 78 (0, 0)) := heap_alloc_last _ _
      have hz4 : w3.heap[w2.heap.size]? = some (.cells Try.zeroCells78 78 (0, 0)) := row_below hz3 hb3
      refine hK.out _ _ ?_ (fun hHeld3 => ?_)
      · exact hb3s
      clear hK K hHeld hHeld2
      have hHeld := hHeld3
      clear hHeld3
      have hsz := hcs.size
      have hms := made_size hcs
      refine wpAnyH_take (i := 5) (v := ?_) rfl (by kernel_rfl) (by kernel_rfl) (by kernel_rfl) (fun _ _ _ h => absurd h.1 (by intro e; cases e)) (Or.inl ⟨by rfl, ?_⟩) hHeld ?_
      rotate_left
      · intro w9 hS9
        go_simp
        try with_reducible rfl
      show wpAnyH _ _ _ _ _ _ _ (Act.put _ (some 43) _) _
      simp only [Act.put, List.setIfInBounds_toArray, List.set_cons_zero, List.set_cons_succ]
      have HROW : Hid _ := made_row (cv := .slice s3 p.code.length c3) hcs
      generalize ((Array.foldl (fun cs x => cs.setIfInBounds x.snd x.fst) Try.zeroCells78 cs.zipIdx 0 35).setIfInBounds 35 (.slice s3 p.code.length c3)) = arr at HROW ⊢
      refine wpAnyH_ready (rs := [7]) (by kernel_rfl) (by simp) ?_
      refine AllReadyH.cons rfl (fun K hK => ?_) AllReadyH.nil
      rw [if_pos (by rfl)]
      refine wp_store_row 78 _ _ rfl w2.heap.size _ rfl rfl 78 _ hz4 (by rw [info78, HROW.out.size]) (by rw [Try.zeroCells78_size, HROW.out.size]) HROW.out.one ?_
      refine hK.out _ _ ?_ (fun hHeld3 => ?_)
      · exact below_set hHeld _ (Nat.le_refl _)
      clear hK K
      have R5 : (w3.setRow w2.heap.size arr).heap[w2.heap.size]? = some (.cells arr 78 (0, 0)) := setRow_heap _ _ _ _ _ _ hz4
      refine wpAnyH_done (by kernel_rfl) ?_ _
      exact ⟨rfl, w2.heap.size, arr, ⟨rfl, rfl, rfl, rfl, rfl, rfl⟩, Nat.le_refl _, R5, HROW.out, hHeld3⟩
  · rintro e a' W ⟨rfl, M, cur, fr, hMw, hb, hr, hBW⟩
    obtain ⟨t, df⟩ := a'
    dsimp only at fr
    obtain ⟨rfl, fz, t1, t4, t8, t9⟩ := fr
    obtain ⟨f, rfl⟩ := frame68_f t fz
    clear fz
    change f 1 = _ at t1
    change f 4 = _ at t4
    change f 8 = _ at t8
    change f 9 = _ at t9
    rw [t1, t4, t8, t9]
    clear t1 t4 t8 t9
    have X5 : BoxP W w.heap.size p s1 c1 s2 c2 s3 c3 := (BoxP.below ⟨hx2, x0, x1, x2, x3⟩ hBW)
    obtain ⟨_, v0, v1, v2, v3⟩ := X5
    have R5 := row_below HR2.out hBW
    have BW := (B1.trans (hb2.mono (by omega))).trans (hBW.mono (by have := hb2.size; omega))
    have K1 := k1.keep (agree_of_below BW lo)
    have K4 := k4.keep (agree_of_below BW lo)
    have PP := prog_parts hp
    obtain ⟨hal, hav⟩ := vals_get hv
    have hwl := PP.wid
    have hp4 := PP.p4
    have hr130 := PP.r2
    have g1 := k1.1
    have g4 := k4.1
    have GS := start_good (mem := mem) PP hv
    have HPP : Hid (ProgP p) := PP
    have HVV : Hid (valsB p.widths args = true) := hv
    have HBW : Hid (Below w.heap.size w W) := BW
    have HK3 : Hid (MinsAt W lo s3 p.code) := k3.keep (agree_of_below BW lo)
    have HR5 : Hid (W.heap[w.heap.size + 1]? = some (.cells #[.int .i64 0, .int .i64 0, .slice none 0 0, .string ⟨#[]⟩, .int .i64 0] 36 (0, 0))) := R5
    have HMW : Hid (w.heap.size + 2 ≤ M) := by show _ ≤ _; have := hb2.size; omega
    have hMW : M < W.heap.size := (Array.getElem?_eq_some_iff.1 hb).1
    have hcb0 : ∀ b off, s3 = some ⟨b, off, none⟩ → (∀ i, i < p.code.length → w.cell? ⟨b, off + i * 7, none⟩ = some (.int .i64 (p.code.getD i mins0).op)) → b < w.heap.size := fun b off _ h => by
      have h0 := h 0 (by have := HPP.out.c1; omega)
      unfold World.cell? at h0
      cases hq : w.heap[b]? with
      | none => simp [hq] at h0
      | some x => exact (Array.getElem?_eq_some_iff.1 hq).1
    have HCB : Hid (∃ cb off, s3 = some ⟨cb, off, none⟩ ∧ cb < w.heap.size) := by
      rcases k3.2 with hn | ⟨cb, off, e, _, hcb, _⟩
      · have := HPP.out.c1; rw [hn] at this; simp at this
      · exact ⟨cb, off, e, hcb⟩
    clear R5 PP hv hcb0 hb2 VI x0 x1 x2 x3 y0 y1 y2 y3 r0 r1 r2 r3 r4 z0 z1 z2 z3 z4 HR2 X1 R1 B1 PI k2 k3 BW hBW hMw hz1 hx2 K1 K4
    go_wp2_with fail
    go_loopw [47, 10, 11] (fun i _ _ wr => ∃ (k : Nat) (cur : Array Value), k ≤ p.params.length ∧ i = .int .i64 k ∧ wr.heap[M]? = some (.cells cur 78 (0, 0)) ∧ RowM cur ⟨memF mem, [], 0, regsK p.params args k, 0⟩ fuel (.slice none 0 0) (.slice s3 p.code.length c3) ∧ W.grownBy wr (some M)) (fun i _ _ _ => p.params.length - (intOf i).toNat)
    case atStart => exact ⟨0, cur, by omega, rfl, hb, hr, grown_refl _ _⟩
    case round =>
      obtain ⟨k, cur2, hk, rfl, hb2, hr2, hg2⟩ := hrel
      obtain ⟨wq, hwq⟩ : ∃ wq, wq = wr := ⟨_, rfl⟩
      subst hwq
      clear hb hr
      by_cases hkl : k < p.params.length
      · have hka : k < args.length := by omega
        rcases k1.2 with hn | ⟨b1, o1, rfl, _, hb1, hc1⟩
        · simp [hn] at hkl
        rcases k4.2 with hn | ⟨b4, o4, rfl, _, hb4, hc4⟩
        · simp [hn] at hka
        have hMW2 := HMW.out
        have hWs := HBW.out.size
        have hq1 : wq.heap[b1]? = w.heap[b1]? := (hg2.block b1 (by omega) (by simp; omega)).trans (HBW.out.block b1 hb1)
        have hq4 : wq.heap[b4]? = w.heap[b4]? := (hg2.block b4 (by omega) (by simp; omega)).trans (HBW.out.block b4 hb4)
        have e1 := (cell_block hq1).trans (hc1 k hkl)
        have e4 := (cell_block hq4).trans (hc4 k hka)
        obtain ⟨q0, q1⟩ := HPP.out.par k hkl
        obtain ⟨pk, hpk⟩ := Int.eq_ofNat_of_zero_le q0
        have hpk2 : pk < 130 := by omega
        have hpk3 : (pk : Int) < 130 := by omega
        have HU : Hid (regsK p.params args (k + 1) = upF (regsK p.params args k) pk (args.getD k 0)) := by
          show upF _ _ _ = _
          rw [hpk]; rfl
        rw [hpk] at e1
        generalize args.getD k 0 = av at e4 HU
        have yM := (cell_of_heap (o := 36 + pk) hb2).trans (hr2.regs pk hpk2)
        have fM : wq.frozen? ⟨M, 36 + pk, none⟩ = false := froz_of_heap hb2
        have HB2 : Hid (wq.heap[M]? = some (.cells cur2 78 (0, 0))) := hb2
        have HRW : Hid (RowM cur2 ⟨memF mem, [], 0, regsK p.params args k, 0⟩ fuel (.slice none 0 0) (.slice s3 p.code.length c3)) := hr2
        have hka2 : (k : Int) < args.length := by omega
        clear hc1 hc4 hb2 hr2 hpk q0 q1 k1 k4 hav
        go_wp2_with fail
        go_roundw
        case rel => exact ⟨k + 1, _, by omega, by go_num, heap_set HB2.out, by rw [HU.out]; exact HRW.out.setReg pk av hpk2, grown_set hg2 _ _⟩
        case measure => simp [intOf]; omega
      · have hke : k = p.params.length := by omega
        have HG2 : Hid (W.grownBy wq (some M)) := hg2
        have HB2 : Hid (wq.heap[M]? = some (.cells cur2 78 (0, 0))) := hb2
        have HRW : Hid (RowM cur2 (startM p args mem) fuel (.slice none 0 0) (.slice s3 p.code.length c3)) := by rw [hke] at hr2; exact hr2
        obtain ⟨cb, off, hs3, hcb⟩ := HCB.out
        subst hs3
        have hMW2 := HMW.out
        have hWs := HBW.out.size
        have hM2 : M < wq.heap.size := (Array.getElem?_eq_some_iff.1 hb2).1
        have HC : Hid (∀ i, i < p.code.length → wq.cell? ⟨cb, off + i * 7, none⟩ = some (.int .i64 (p.code.getD i mins0).op) ∧ wq.cell? ⟨cb, off + i * 7 + 1, none⟩ = some (.int .i64 (p.code.getD i mins0).w) ∧ wq.cell? ⟨cb, off + i * 7 + 2, none⟩ = some (.int .i64 (p.code.getD i mins0).d) ∧ wq.cell? ⟨cb, off + i * 7 + 3, none⟩ = some (.int .i64 (p.code.getD i mins0).a) ∧ wq.cell? ⟨cb, off + i * 7 + 4, none⟩ = some (.int .i64 (p.code.getD i mins0).b) ∧ wq.cell? ⟨cb, off + i * 7 + 5, none⟩ = some (.int .i64 (p.code.getD i mins0).c) ∧ wq.cell? ⟨cb, off + i * 7 + 6, none⟩ = some (.int .i64 (p.code.getD i mins0).imm)) := by
          have hqc : wq.heap[cb]? = W.heap[cb]? := hg2.block cb (by omega) (by simp; omega)
          rcases HK3.out.2 with hn | ⟨cb', off', e, _, _, hc⟩
          · have := HPP.out.c1; rw [hn] at this; simp at this
          · simp at e
            obtain ⟨rfl, rfl⟩ := e
            intro i hi
            obtain ⟨a0, a1, a2, a3, a4, a5, a6⟩ := hc i hi
            exact ⟨(cell_block hqc).trans a0, (cell_block hqc).trans a1, (cell_block hqc).trans a2, (cell_block hqc).trans a3, (cell_block hqc).trans a4, (cell_block hqc).trans a5, (cell_block hqc).trans a6⟩
        have EN := endI M p.code cb off c3 p.regs fuel (startM p args mem) wq HPP.out.r1 HPP.out.r2 HPP.out.c2 (by omega) hM2 f1 HC.out HPP.out.ins HPP.out.last cur2 HB2.out HRW.out rfl GS (by show (0 : Int) ≤ 0; omega) (by show (0 : Int) < _; have := HPP.out.c1; omega) (by show (0 : Int) ≤ fuel; omega)
        rw [show (fuel - (startM p args mem).steps) = fuel from by show fuel - 0 = fuel; omega] at EN
        have EE : Hid (machR p args mem fuel = ⟨(runM p.code fuel.toNat (startM p args mem)).code, (runM p.code fuel.toNat (startM p args mem)).value, (runM p.code fuel.toNat (startM p args mem)).st.out, memB (runM p.code fuel.toNat (startM p args mem)).st.mem, (runM p.code fuel.toNat (startM p args mem)).st.steps⟩) := by show _ = _; rw [machR, if_pos E.out]
        have GT := run_good HPP.out.r1 HPP.out.r2 HPP.out.ins HPP.out.last fuel.toNat (startM p args mem) GS (by show (0 : Int) ≤ 0; omega) (by show (0 : Int) < _; have := HPP.out.c1; omega)
        generalize runM p.code fuel.toNat (startM p args mem) = T at EN EE GT
        have hlt2 : ¬ (k : Int) < p.params.length := by omega
        clear hb2 hr2 hg2 hke hkl hk k1 k4 hav
        have HGT : Hid (Good T.st) := GT
        clear GT GS
        go_wp2_with (first | (go_at_call 41; refine EN.mono ?_; rintro e w4 ⟨T', hTT, rfl, m4, k4⟩; subst hTT; obtain ⟨hM4, hB4, cur4, ov4, hb4, hr4, ho4⟩ := m4; obtain ⟨u4, q4, rfl⟩ := ownsRow_slice ho4; have RI := resultI M cur4 78 T'.st u4 q4 T'.code T'.value w4 hb4 hr4.mem HGT.out.mem hr4.out hr4.steps; have HO4 : Hid (w4.ownsRow (wq.heap.size + 1) 2 1 (.slice u4 T'.st.out.length q4) T'.st.out.length (T'.st.out.map (Value.int .i64))) := ho4; have HK4 : Hid (Keeps M wq.heap.size wq w4) := k4; clear hb4 hr4 ho4 k4) | (go_at_call 42; refine RI.mono ?_; rintro e w5 ⟨rfl, hb5⟩; have R9 : w5.heap[w.heap.size + 1]? = some (.cells #[.int .i64 0, .int .i64 0, .slice none 0 0, .string ⟨#[]⟩, .int .i64 0] 36 (0, 0)) := row_below ((HK4.out.block (w.heap.size + 1) (by omega) (by omega)).trans ((HG2.out.block (w.heap.size + 1) (by omega) (by simp; omega)).trans HR5.out)) hb5; have r0 := (cell_of_heap (o := 0) R9).trans rfl; have r1 := (cell_of_heap (o := 1) R9).trans rfl; have r2 := (cell_of_heap (o := 2) R9).trans rfl; have r3 := (cell_of_heap (o := 3) R9).trans rfl; have r4 := (cell_of_heap (o := 4) R9).trans rfl; have z0 : w5.frozen? ⟨w.heap.size + 1, 0, none⟩ = false := froz_of_heap R9; have z1 : w5.frozen? ⟨w.heap.size + 1, 1, none⟩ = false := froz_of_heap R9; have z2 : w5.frozen? ⟨w.heap.size + 1, 2, none⟩ = false := froz_of_heap R9; have z3 : w5.frozen? ⟨w.heap.size + 1, 3, none⟩ = false := froz_of_heap R9; have z4 : w5.frozen? ⟨w.heap.size + 1, 4, none⟩ = false := froz_of_heap R9; have HR9 : Hid (w5.heap[w.heap.size + 1]? = some (.cells #[.int .i64 0, .int .i64 0, .slice none 0 0, .string ⟨#[]⟩, .int .i64 0] 36 (0, 0))) := R9; clear R9))
        have B4 : Below w.heap.size w w4 := HBW.out.trans ⟨HK4.out.os.trans HG2.out.os, HK4.out.tape.trans HG2.out.tape, HK4.out.output.trans HG2.out.output, Nat.le_trans HG2.out.size HK4.out.size, fun b hb => (HK4.out.block b (by omega) (by omega)).trans (HG2.out.block b (by omega) (by simp; omega))⟩
        have B5 := B4.trans (hb5.mono B4.size)
        refine bodyPost_ret (v := .agg #[.int .i64 T'.code, .int .i64 T'.value, .slice u4 T'.st.out.length q4, .string (memB T'.st.mem), .int .i64 T'.st.steps]) (results_cell_row Try.results15 _ _ (w.heap.size + 1) 36 _ (0, 0) _ rfl (five_set HR9.out _ _ _ _ _) Try.underlying36 rfl (by kernel_rfl)) rfl ⟨?_, five_below B5 (by omega) _ _ _ _ _⟩
        rw [EE.out]
        refine ⟨u4, q4, rfl, ?_⟩
        have hge : ∀ g, (Value.slice u4 T'.st.out.length q4).ownBlock = some g → wq.heap.size + 1 ≤ g ∧ g < w4.heap.size := fun g hg => ownsRow_ge HO4.out hg
        have ho := ownsRow_at HO4.out (w' := w5) fun g _ hg => hb5.block g hg
        have ho' := ownsRow_at ho (w' := (((((w5.setCell ⟨w.heap.size + 1, 0, none⟩ (.int .i64 T'.code)).setCell ⟨w.heap.size + 1, 1, none⟩ (.int .i64 T'.value)).setCell ⟨w.heap.size + 1, 2, none⟩ (.slice u4 T'.st.out.length q4)).setCell ⟨w.heap.size + 1, 3, none⟩ (.string (memB T'.st.mem))).setCell ⟨w.heap.size + 1, 4, none⟩ (.int .i64 T'.st.steps))) fun g hg _ => by
          have := hge g hg
          repeat refine (Below.heap_setCell _ _ _ _ (by show g ≠ w.heap.size + 1; omega)).trans ?_
          rfl
        obtain ⟨hl, h⟩ := ho'
        refine ⟨hl, ?_⟩
        rcases h with h | ⟨g, cap, cur, hv, hb, rest⟩
        · exact .inl h
        · exact .inr ⟨g, cap, cur, hv, by omega, rest⟩
end Go.Proofs.Ytofgfiakccjimaa
