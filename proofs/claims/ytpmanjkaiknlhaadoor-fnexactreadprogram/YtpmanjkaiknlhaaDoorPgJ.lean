/- Programs: the contract of the model's ProgramOk. -/
import Derived.Test.YtpmanjkaiknlhaaDoorPgB
import Derived.Test.YtpmanjkaiknlhaaDoorPgI
import Derived.Deep.QuietTactic
import Derived.BigQuiet
import Derived.Deep.RegionWith
import Derived.WalkSmall
namespace Go.Proofs.YtpmanjkaiknlhaaDoor
open Go.RowKit
set_option linter.unusedVariables false
set_option linter.unusedSimpArgs false

theorem dand {p q : Prop} [Decidable p] [Decidable q] (h : p) (k : q) : (decide p && decide q) = true := by simp [h, k]
theorem dnand {p q : Prop} [Decidable p] [Decidable q] (h : ¬ (p ∧ q)) : (decide p && decide q) = false := by
  by_cases hp : p
  · rw [decide_eq_false (fun hq => h ⟨hp, hq⟩)]; simp
  · rw [decide_eq_false hp]; rfl
/-- A boxed program. -/
def BoxP (W : World) (B : Nat) (p : ProgD) (s1 : Option Addr) (c1 : Nat) (s2 : Option Addr) (c2 : Nat) (s3 : Option Addr) (c3 : Nat) : Prop :=
  B < W.heap.size ∧ W.cell? ⟨B, 0, none⟩ = some (.int .i64 p.regs) ∧ W.cell? ⟨B, 1, none⟩ = some (.slice s1 p.params.length c1) ∧ W.cell? ⟨B, 2, none⟩ = some (.slice s2 p.widths.length c2) ∧ W.cell? ⟨B, 3, none⟩ = some (.slice s3 p.code.length c3)
theorem BoxP.new (w : World) (p : ProgD) (s1 : Option Addr) (c1 : Nat) (s2 : Option Addr) (c2 : Nat) (s3 : Option Addr) (c3 : Nat) (T : TypeId) : BoxP (w.alloc (.cells #[.int .i64 p.regs, .slice s1 p.params.length c1, .slice s2 p.widths.length c2, .slice s3 p.code.length c3] T)) w.heap.size p s1 c1 s2 c2 s3 c3 :=
  ⟨by simp, (cell_of_heap (heap_alloc_at _ _)).trans rfl, (cell_of_heap (heap_alloc_at _ _)).trans rfl, (cell_of_heap (heap_alloc_at _ _)).trans rfl, (cell_of_heap (heap_alloc_at _ _)).trans rfl⟩
theorem BoxP.below {w w' : World} {B : Nat} {p : ProgD} {s1 : Option Addr} {c1 : Nat} {s2 : Option Addr} {c2 : Nat} {s3 : Option Addr} {c3 : Nat} (h : BoxP w B p s1 c1 s2 c2 s3 c3) (k : Below w.heap.size w w') : BoxP w' B p s1 c1 s2 c2 s3 c3 :=
  ⟨Nat.lt_of_lt_of_le h.1 k.size, (cell_block (k.block _ h.1)).trans h.2.1, (cell_block (k.block _ h.1)).trans h.2.2.1, (cell_block (k.block _ h.1)).trans h.2.2.2.1, (cell_block (k.block _ h.1)).trans h.2.2.2.2⟩
theorem below_drew1 {W a b : World} (h : Below W.heap.size W a) (k : Below a.drew.heap.size a.drew b) : Below W.heap.size W b := by
  have hy := k.mono (B' := W.heap.size) h.size
  exact ⟨hy.os.trans h.os, hy.tape.trans h.tape, hy.output.trans h.output, Nat.le_trans h.size hy.size, fun i hi => (hy.block i hi).trans (h.block i hi)⟩
theorem lastB (op : Int) : (op == 31 || (op == 33 || op == 34)) = !(goesB op) := by unfold goesB; cases op == 31 <;> cases op == 33 <;> cases op == 34 <;> rfl
set_option maxHeartbeats 4000000 in
theorem progS (lo : Nat) (p : ProgD) (s1 : Option Addr) (c1 : Nat) (s2 : Option Addr) (c2 : Nat) (s3 : Option Addr) (c3 : Nat) (w : World) (k1 : IntsAt w lo s1 p.params) (k2 : IntsAt w lo s2 p.widths) (k3 : MinsAt w lo s3 p.code) :
    Calls Tryd.prog 23 #[.agg #[.int .i64 p.regs, .slice s1 p.params.length c1, .slice s2 p.widths.length c2, .slice s3 p.code.length c3]] w fun e w' => e = .returned (.bool (progB p)) ∧ Below w.heap.size w w' := by
  have g1 := k1.1
  have g2 := k2.1
  have g3 := k3.1
  have B1 : Below w.heap.size w (w.alloc (.cells #[.int .i64 p.regs, .slice s1 p.params.length c1, .slice s2 p.widths.length c2, .slice s3 p.code.length c3] 25)) := (Below.refl _ _).alloc (Nat.le_refl _) _
  have X1 := BoxP.new w p s1 c1 s2 c2 s3 c3 25
  by_cases r1 : 1 ≤ p.regs ∧ p.regs ≤ 130
  case neg =>
    have d1 : (decide (1 ≤ p.regs) && decide (p.regs ≤ 130)) = false := dnand r1
    have d2 := d1
    have E : Hid (false = progB p) := by show _ = _; rw [progB, d1]; rfl
    clear X1
    go_enter Tryd.func23, Tryd.ntmps23
    go_wp2_with (go_at_call 35; refine (inS _ _ _ _).mono ?_; rintro e w9 ⟨rfl, h9⟩; have h8 := h9.symm; clear h9; subst h8; try simp only [d1, d2])
    go_ret
    exact ⟨ret_bool E.out, B1⟩
  have d1 : (decide (1 ≤ p.regs) && decide (p.regs ≤ 130)) = true := dand r1.1 r1.2
  obtain ⟨q1, q2⟩ := r1
  by_cases r2 : (1 : Int) ≤ p.code.length ∧ (p.code.length : Int) ≤ 600
  case neg =>
    have d2 : (decide ((1 : Int) ≤ p.code.length) && decide ((p.code.length : Int) ≤ 600)) = false := dnand r2
    have E : Hid (false = progB p) := by
      show _ = _
      have : codeB p.code p.regs = false := by
        by_cases h : 1 ≤ p.code.length
        · rw [codeB, decide_eq_false (show ¬ p.code.length ≤ 600 by omega)]; simp
        · rw [codeB, decide_eq_false h]; rfl
      rw [progB, this]; simp
    clear X1
    go_enter Tryd.func23, Tryd.ntmps23
    go_wp2_with (go_at_call 35; refine (inS _ _ _ _).mono ?_; rintro e w9 ⟨rfl, h9⟩; have h8 := h9.symm; clear h9; subst h8; try simp only [d1, d2])
    go_ret
    exact ⟨ret_bool E.out, B1⟩
  have d2 : (decide ((1 : Int) ≤ p.code.length) && decide ((p.code.length : Int) ≤ 600)) = true := dand r2.1 r2.2
  obtain ⟨q3, q4⟩ := r2
  by_cases r3 : 4 < p.params.length
  · have E : Hid (false = progB p) := by show _ = _; rw [progB, decide_eq_false (show ¬ p.params.length ≤ 4 by omega)]; simp
    have r3' : (4 : Int) < p.params.length := by omega
    clear X1
    go_enter Tryd.func23, Tryd.ntmps23
    go_wp2_with (go_at_call 35; refine (inS _ _ _ _).mono ?_; rintro e w9 ⟨rfl, h9⟩; have h8 := h9.symm; clear h9; subst h8; try simp only [d1, d2])
    go_ret
    exact ⟨ret_bool E.out, B1⟩
  have r3' : ¬ (4 : Int) < p.params.length := by omega
  by_cases r4 : p.widths.length = p.params.length
  case neg =>
    have E : Hid (false = progB p) := by show _ = _; rw [progB, decide_eq_false r4]; simp
    have r4' : ¬ (p.widths.length : Int) = p.params.length := by omega
    clear X1
    go_enter Tryd.func23, Tryd.ntmps23
    go_wp2_with (go_at_call 35; refine (inS _ _ _ _).mono ?_; rintro e w9 ⟨rfl, h9⟩; have h8 := h9.symm; clear h9; subst h8; try simp only [d1, d2])
    go_ret
    exact ⟨ret_bool E.out, B1⟩
  have r4' : (p.widths.length : Int) = p.params.length := by omega
  have R4 : Hid (p.widths.length = p.params.length) := r4
  have HE : Hid (progB p = ((p.params.all fun n => belowB n p.regs) && ((p.widths.all fun n => widthB n) && codeB p.code p.regs))) := by
    show _ = _
    rw [progB, decide_eq_true q1, decide_eq_true q2, decide_eq_true r4, decide_eq_true (show p.params.length ≤ 4 by omega)]; rfl
  clear r4
  go_enter Tryd.func23, Tryd.ntmps23
  go_wp2_with (go_at_call 35; refine (inS _ _ _ _).mono ?_; rintro e w9 ⟨rfl, h9⟩; have h8 := h9.symm; clear h9; subst h8; try simp only [d1, d2])
  clear r4'
  generalize hW0 : w.alloc (.cells #[.int .i64 p.regs, .slice s1 p.params.length c1, .slice s2 p.widths.length c2, .slice s3 p.code.length c3] 25) = W0 at B1 X1 ⊢
  have K1 := k1.keep (agree_of_below B1 lo)
  have K2 := k2.keep (agree_of_below B1 lo)
  have K3 := k3.keep (agree_of_below B1 lo)
  clear hW0
  go_loopw [4] (fun i wr => ∃ k : Nat, k ≤ p.params.length ∧ i = .int .i64 k ∧ Hid (∀ j, j < k → belowB (p.params.getD j 0) p.regs = true ∧ widthB (p.widths.getD j 0) = true) ∧ Below W0.heap.size W0 wr) (fun i _ => p.params.length - (intOf i).toNat)
  case atStart => exact ⟨0, by omega, rfl, fun k hk => by omega, Below.refl _ _⟩
  case round =>
    obtain ⟨k, hk, rfl, HD, hB⟩ := hrel
    obtain ⟨wq, hwq⟩ : ∃ wq, wq = wr := ⟨_, rfl⟩
    subst hwq
    have X := X1.below hB
    obtain ⟨x0, x1, x2, x3, x4⟩ := X
    by_cases hkl : k < p.params.length
    · have hkw : k < p.widths.length := by have := R4.out; omega
      rcases K1.2 with hn | ⟨b, off, rfl, hlo, hb, hcell⟩
      · simp [hn] at hkl
      rcases K2.2 with hn | ⟨b', off', rfl, hlo', hb', hcell'⟩
      · simp [hn] at hkw
      have e0 : wq.cell? ⟨b, off + k, none⟩ = some (.int .i64 (p.params.getD k 0)) := (cell_block (hB.block b hb)).trans (hcell k hkl)
      have e1 : wq.cell? ⟨b', off' + k, none⟩ = some (.int .i64 (p.widths.getD k 0)) := (cell_block (hB.block b' hb')).trans (hcell' k hkw)
      have NB : Hid (belowB (p.params.getD k 0) p.regs = false → false = progB p) := fun h => by rw [HE.out, all_no 0 p.params k hkl (by rw [h]; decide)]; rfl
      have NW : Hid (widthB (p.widths.getD k 0) = false → false = progB p) := fun h => by rw [HE.out, all_no 0 p.widths k hkw (by rw [h]; decide)]; simp
      have YES : Hid (belowB (p.params.getD k 0) p.regs = true → widthB (p.widths.getD k 0) = true → ∀ j, j < k + 1 → belowB (p.params.getD j 0) p.regs = true ∧ widthB (p.widths.getD j 0) = true) := fun h h' j hj => by
        by_cases e : j = k
        · subst e; exact ⟨h, h'⟩
        · exact HD.out j (by omega)
      generalize p.params.getD k 0 = x at e0 NB YES
      generalize p.widths.getD k 0 = y at e1 NW YES
      have HB : Hid (Below W0.heap.size W0 wq) := hB
      clear hcell hcell' hB HD HE K3 k1 k2 k3 K1 K2
      have IB : ∀ W, Calls Tryd.prog 35 #[.int .i64 x, .int .i64 0, .int .i64 (p.regs - 1)] W fun e w' => e = .returned (.bool (belowB x p.regs)) ∧ w' = W := fun W => inB x p.regs W
      have IW : ∀ W, Calls Tryd.prog 36 #[.int .i64 y] W fun e w' => e = .returned (.bool (widthB y)) ∧ w' = W := fun W => widthS y W
      cases hx : belowB x p.regs with
      | false =>
        have N : Hid (false = progB p) := NB.out hx
        rw [hx] at IB
        clear NB NW YES IW
        go_wp2_with fail
        go_quiet (first | (go_at_call 35; refine Calls.quiet_of_same (IB _)))
        go_wp2_with fail
        go_ret
        exact ⟨ret_bool N.out, below_drewN (B1.trans (HB.out.mono B1.size)) _⟩
      | true =>
        rw [hx] at IB
        cases hy : widthB y with
        | false =>
          have N : Hid (false = progB p) := NW.out hy
          rw [hy] at IW
          clear NB NW YES
          go_wp2_with fail
          go_quiet (first | (go_at_call 35; refine Calls.quiet_of_same (IB _)) | (go_at_call 36; refine Calls.quiet_of_same (IW _)))
          go_wp2_with fail
          go_ret
          exact ⟨ret_bool N.out, below_drewN (B1.trans (HB.out.mono B1.size)) _⟩
        | true =>
          have Y : Hid (∀ j, j < k + 1 → belowB (p.params.getD j 0) p.regs = true ∧ widthB (p.widths.getD j 0) = true) := YES.out hx hy
          rw [hy] at IW
          clear NB NW YES
          go_wp2_with fail
          go_quiet (first | (go_at_call 35; refine Calls.quiet_of_same (IB _)) | (go_at_call 36; refine Calls.quiet_of_same (IW _)))
          go_wp2_with fail
          go_roundw
          case rel => exact ⟨k + 1, by omega, by go_num, Y.out, below_drewN HB.out _⟩
          case measure => simp [intOf]; omega
    · have HE : Hid (progB p = codeB p.code p.regs) := by
        show _ = _
        have a1 : (p.params.all fun n => belowB n p.regs) = true := all_yes 0 p.params (fun j hj => (HD.out j (by omega)).1)
        have a2 : (p.widths.all fun n => widthB n) = true := all_yes 0 p.widths (fun j hj => (HD.out j (by have := R4.out; omega)).2)
        rw [HE.out, a1, a2]; rfl
      have HE : Hid (progB p = (!(goesB (p.code.getD (p.code.length - 1) mins0).op) && p.code.all fun i => minsB i p.regs p.code.length)) := by
        show _ = _
        rw [HE.out, codeB, decide_eq_true (show 1 ≤ p.code.length by omega), decide_eq_true (show p.code.length ≤ 600 by omega)]; rfl
      have BB : Below W0.heap.size W0 wq := hB
      clear HD K1 K2 k1 k2 k3 hB
      go_wp2_with fail
      clear x0 x1 x2 x3 x4
      go_loopw [5] (fun i wr => ∃ k : Nat, k ≤ p.code.length ∧ i = .int .i64 k ∧ Hid (∀ j, j < k → minsB (p.code.getD j mins0) p.regs p.code.length = true) ∧ Below W0.heap.size W0 wr) (fun i _ => p.code.length - (intOf i).toNat)
      case atStart => exact ⟨0, by omega, rfl, fun k hk => by omega, BB⟩
      case round =>
        obtain ⟨k, hk, rfl, HD, hB⟩ := hrel
        obtain ⟨wq, hwq⟩ : ∃ wq, wq = wr := ⟨_, rfl⟩
        subst hwq
        clear BB
        have X := X1.below hB
        obtain ⟨x0, x1, x2, x3, x4⟩ := X
        rcases K3.2 with hn | ⟨b, off, rfl, hlo, hb, hcell⟩
        · simp [hn] at q3
        by_cases hkl : k < p.code.length
        · obtain ⟨i0, i1, i2, i3, i4, i5, i6⟩ := hcell k hkl
          generalize hp : p.code.getD k mins0 = q at i0 i1 i2 i3 i4 i5 i6
          have HP : Hid (p.code.getD k mins0 = q) := hp
          have f0 : wq.cell? ⟨b, off + k * 7, none⟩ = some (.int .i64 q.op) := (cell_block (hB.block b hb)).trans i0
          have f1 : wq.cell? ⟨b, off + k * 7 + 1, none⟩ = some (.int .i64 q.w) := (cell_block (hB.block b hb)).trans i1
          have f2 : wq.cell? ⟨b, off + k * 7 + 2, none⟩ = some (.int .i64 q.d) := (cell_block (hB.block b hb)).trans i2
          have f3 : wq.cell? ⟨b, off + k * 7 + 3, none⟩ = some (.int .i64 q.a) := (cell_block (hB.block b hb)).trans i3
          have f4 : wq.cell? ⟨b, off + k * 7 + 4, none⟩ = some (.int .i64 q.b) := (cell_block (hB.block b hb)).trans i4
          have f5 : wq.cell? ⟨b, off + k * 7 + 5, none⟩ = some (.int .i64 q.c) := (cell_block (hB.block b hb)).trans i5
          have f6 : wq.cell? ⟨b, off + k * 7 + 6, none⟩ = some (.int .i64 q.imm) := (cell_block (hB.block b hb)).trans i6
          have HB : Hid (Below W0.heap.size W0 wq) := hB
          have NO : Hid (minsB q p.regs p.code.length = false → false = progB p) := fun h => by rw [HE.out, all_no mins0 p.code k hkl (by rw [HP.out, h]; decide)]; simp
          have YES : Hid (minsB q p.regs p.code.length = true → ∀ j, j < k + 1 → minsB (p.code.getD j mins0) p.regs p.code.length = true) := fun h j hj => by
            by_cases e : j = k
            · subst e; rw [HP.out]; exact h
            · exact HD.out j (by omega)
          have MS : ∀ W, Calls Tryd.prog 37 #[.agg #[.int .i64 q.op, .int .i64 q.w, .int .i64 q.d, .int .i64 q.a, .int .i64 q.b, .int .i64 q.c, .int .i64 q.imm], .int .i64 p.regs, .int .i64 p.code.length] W fun e w' => e = .returned (.bool (minsB q p.regs p.code.length)) ∧ Below W.heap.size W w' := fun W => minsS q p.regs p.code.length W q1 q2 q3 q4
          clear hcell i0 i1 i2 i3 i4 i5 i6 hp hB HD HE K3
          cases hf : minsB q p.regs p.code.length with
          | false =>
            have N : Hid (false = progB p) := NO.out hf
            rw [hf] at MS
            clear NO YES
            go_wp2_with fail
            go_region_with (go_at_call 37; refine (MS _).mono ?_; rintro e w1 ⟨rfl, hb1⟩)
            all_goals
              go_wp2_with fail
              go_ret
              exact ⟨ret_bool N.out, B1.trans ((below_drew1 HB.out hb1).mono B1.size)⟩
          | true =>
            have Y : Hid (∀ j, j < k + 1 → minsB (p.code.getD j mins0) p.regs p.code.length = true) := YES.out hf
            rw [hf] at MS
            clear NO YES
            go_wp2_with fail
            go_region_with (go_at_call 37; refine (MS _).mono ?_; rintro e w1 ⟨rfl, hb1⟩)
            all_goals
              go_wp2_with fail
              go_roundw
              case rel => exact ⟨k + 1, by omega, by go_num, Y.out, below_drew1 HB.out hb1⟩
              case measure => simp [intOf]; omega
        · have HE : Hid ((!(goesB (p.code.getD (p.code.length - 1) mins0).op)) = progB p) := by
            show _ = _
            have a : (p.code.all fun i => minsB i p.regs p.code.length) = true := all_yes mins0 p.code (fun j hj => HD.out j (by omega))
            rw [HE.out, a]; simp
          have i0 := (hcell (p.code.length - 1) (by omega)).1
          have f0 := (cell_block (hB.block b hb)).trans i0
          generalize (p.code.getD (p.code.length - 1) mins0).op = last at f0 HE
          have HB : Hid (Below W0.heap.size W0 wq) := hB
          clear hcell i0 hB HD K3
          have E2 : Hid ((last == 31 || (last == 33 || last == 34)) = progB p) := (lastB last).trans HE.out
          by_cases l1 : last = 31
          · subst l1
            go_wp2_with fail
            go_ret
            exact ⟨ret_bool E2.out, B1.trans (HB.out.mono B1.size)⟩
          by_cases l2 : last = 33
          · subst l2
            go_wp2_with fail
            go_ret
            exact ⟨ret_bool E2.out, B1.trans (HB.out.mono B1.size)⟩
          by_cases l3 : last = 34
          · subst l3
            go_wp2_with fail
            go_ret
            exact ⟨ret_bool E2.out, B1.trans (HB.out.mono B1.size)⟩
          have E3 : Hid ((last == 31 || last == 33 || last == 34) = progB p) := by show _ = _; rw [← E2.out, Bool.or_assoc]
          go_wp2_with fail
          go_ret
          exact ⟨ret_bool E3.out, B1.trans (HB.out.mono B1.size)⟩
end Go.Proofs.YtpmanjkaiknlhaaDoor
