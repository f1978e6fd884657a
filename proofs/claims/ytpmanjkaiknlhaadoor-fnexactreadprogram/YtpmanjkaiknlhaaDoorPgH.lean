/- Programs: what is right, and the contract of the program's codeOk. -/
import Derived.Test.YtpmanjkaiknlhaaDoorPgG
namespace Go.Proofs.YtpmanjkaiknlhaaDoor
open Go.RowKit
set_option linter.unusedVariables false
set_option linter.unusedSimpArgs false

def codeB (l : List MInsD) (regs : Int) : Bool := decide (1 ≤ l.length) && (decide (l.length ≤ 600) && (!(goesB (l.getD (l.length - 1) mins0).op) && l.all fun i => minsB i regs l.length))
theorem below_new {w w1 w2 : World} {o : Obj} (h : Below w.heap.size w w1) (k : Below (w1.alloc o).heap.size (w1.alloc o) w2) : Below w.heap.size w w2 := (h.alloc h.size o).trans (k.mono (by have := h.size; simp; omega))
set_option maxHeartbeats 2000000 in
theorem codeI (lo : Nat) (a : Option Addr) (cap : Nat) (l : List MInsD) (regs : Int) (w : World) (h0 : 1 ≤ regs) (hv : MinsAt w lo a l) :
    Calls Tryd.prog 43 #[.slice a l.length cap, .int .i64 regs] w fun e w' => e = .returned (.bool (codeB l regs)) ∧ Below w.heap.size w w' := by
  have hm := hv.1
  by_cases c1 : l.length < 1
  · have E : Hid (false = codeB l regs) := by show _ = _; simp [codeB]; omega
    have c1' : (l.length : Int) < 1 := by omega
    go_enter Tryd.func43, Tryd.ntmps43
    go_wp2_with fail
    go_ret
    exact ⟨ret_bool E.out, Below.refl _ _⟩
  have c1' : ¬ (l.length : Int) < 1 := by omega
  by_cases c2 : 600 < l.length
  · have E : Hid (false = codeB l regs) := by
      show _ = _
      rw [codeB, decide_eq_false (show ¬ l.length ≤ 600 by omega)]; simp
    have c2' : (600 : Int) < l.length := by omega
    go_enter Tryd.func43, Tryd.ntmps43
    go_wp2_with fail
    go_ret
    exact ⟨ret_bool E.out, Below.refl _ _⟩
  have c2' : ¬ (600 : Int) < l.length := by omega
  rcases hv.2 with rfl | ⟨b, off, rfl, hlo, hb, hcell⟩
  · simp at c1
  have e0 := (hcell (l.length - 1) (by omega)).1
  have HE : Hid (codeB l regs = (!(goesB (l.getD (l.length - 1) mins0).op) && l.all fun i => minsB i regs l.length)) := by
    show _ = _
    rw [codeB, decide_eq_true (show 1 ≤ l.length by omega), decide_eq_true (show l.length ≤ 600 by omega)]; rfl
  generalize (l.getD (l.length - 1) mins0).op = last at e0 HE
  cases hg : goesB last with
  | true =>
    have E : Hid (false = codeB l regs) := by show _ = _; rw [HE.out, hg]; rfl
    clear HE hcell
    go_enter Tryd.func43, Tryd.ntmps43
    go_wp2_with (go_at_call 52; refine (goesI _ _).mono ?_; rintro e w9 ⟨rfl, h9⟩; have h8 := h9.symm; clear h9; subst h8)
    go_ret
    exact ⟨ret_bool E.out, Below.refl _ _⟩
  | false =>
    have HE : Hid (codeB l regs = l.all fun i => minsB i regs l.length) := by show _ = _; rw [HE.out, hg]; rfl
    go_enter Tryd.func43, Tryd.ntmps43
    go_wp2_with (go_at_call 52; refine (goesI _ _).mono ?_; rintro e w9 ⟨rfl, h9⟩; have h8 := h9.symm; clear h9; subst h8)
    go_loopw [27] (fun i wr => ∃ k : Nat, k ≤ l.length ∧ i = .int .i64 k ∧ Hid (∀ j, j < k → minsB (l.getD j mins0) regs l.length = true) ∧ Below w.heap.size w wr) (fun i _ => l.length - (intOf i).toNat)
    case atStart => exact ⟨0, by omega, rfl, fun k hk => by omega, Below.refl _ _⟩
    case round =>
      obtain ⟨k, hk, rfl, HD, hB⟩ := hrel
      obtain ⟨wq, hwq⟩ : ∃ wq, wq = wr := ⟨_, rfl⟩
      subst hwq
      clear e0
      by_cases hkl : k < l.length
      · obtain ⟨i0, i1, i2, i3, i4, i5, i6⟩ := hcell k hkl
        generalize hp : l.getD k mins0 = p at i0 i1 i2 i3 i4 i5 i6
        have HP : Hid (l.getD k mins0 = p) := hp
        have f0 : wq.cell? ⟨b, off + k * 7, none⟩ = some (.int .i64 p.op) := (cell_block (hB.block b hb)).trans i0
        have f1 : wq.cell? ⟨b, off + k * 7 + 1, none⟩ = some (.int .i64 p.w) := (cell_block (hB.block b hb)).trans i1
        have f2 : wq.cell? ⟨b, off + k * 7 + 2, none⟩ = some (.int .i64 p.d) := (cell_block (hB.block b hb)).trans i2
        have f3 : wq.cell? ⟨b, off + k * 7 + 3, none⟩ = some (.int .i64 p.a) := (cell_block (hB.block b hb)).trans i3
        have f4 : wq.cell? ⟨b, off + k * 7 + 4, none⟩ = some (.int .i64 p.b) := (cell_block (hB.block b hb)).trans i4
        have f5 : wq.cell? ⟨b, off + k * 7 + 5, none⟩ = some (.int .i64 p.c) := (cell_block (hB.block b hb)).trans i5
        have f6 : wq.cell? ⟨b, off + k * 7 + 6, none⟩ = some (.int .i64 p.imm) := (cell_block (hB.block b hb)).trans i6
        have HB : Hid (Below w.heap.size w wq) := hB
        have AS : Hid ((fieldsB p regs && (mwB p && miB p l.length)) = minsB p regs l.length) := mins_asks p regs l.length h0
        have NO : Hid (minsB p regs l.length = false → false = codeB l regs) := fun h => by rw [HE.out]; exact (all_no mins0 l k hkl (by rw [HP.out, h]; decide)).symm
        have YES : Hid (minsB p regs l.length = true → ∀ j, j < k + 1 → minsB (l.getD j mins0) regs l.length = true) := fun h j hj => by
          by_cases e : j = k
          · subst e; rw [HP.out]; exact h
          · exact HD.out j (by omega)
        have FI := fieldsI p regs (wq.alloc (.cells #[.int .i64 p.op, .int .i64 p.w, .int .i64 p.d, .int .i64 p.a, .int .i64 p.b, .int .i64 p.c, .int .i64 p.imm] 38))
        clear hcell i0 i1 i2 i3 i4 i5 i6 hp hB HD HE
        cases hf : fieldsB p regs with
        | false =>
          rw [hf] at FI
          have N : Hid (false = codeB l regs) := NO.out (by rw [← AS.out, hf]; rfl)
          clear NO YES AS
          go_wp2_with (go_at_call 53; refine FI.mono ?_; rintro e w2 ⟨rfl, hb2⟩)
          go_ret
          exact ⟨ret_bool N.out, below_new HB.out hb2⟩
        | true =>
          rw [hf] at FI
          cases hw : mwB p with
          | false =>
            have N : Hid (false = codeB l regs) := NO.out (by rw [← AS.out, hf, hw]; rfl)
            clear NO YES AS
            go_wp2_with (first | (go_at_call 53; refine FI.mono ?_; rintro e w2 ⟨rfl, hb2⟩; have hcc := bcell hb2; have z2 : wq.heap.size < w2.heap.size := (by have := hb2.size; simp at this; omega); have WI := mwI p w2; rw [hw] at WI) | (go_at_call 54; refine WI.mono ?_; rintro e w3 ⟨rfl, hb3⟩))
            go_ret
            exact ⟨ret_bool N.out, (below_new HB.out hb2).trans (hb3.mono (below_new HB.out hb2).size)⟩
          | true =>
            cases hi : miB p l.length with
            | false =>
              have N : Hid (false = codeB l regs) := NO.out (by rw [← AS.out, hf, hw, hi]; rfl)
              clear NO YES AS
              go_wp2_with (first | (go_at_call 53; refine FI.mono ?_; rintro e w2 ⟨rfl, hb2⟩; have hcc := bcell hb2; have z2 : wq.heap.size < w2.heap.size := (by have := hb2.size; simp at this; omega); have WI := mwI p w2; rw [hw] at WI) | (go_at_call 54; refine WI.mono ?_; rintro e w3 ⟨rfl, hb3⟩; have hcc3 := bcell hb3; have z3 : wq.heap.size < w3.heap.size := (by have := hb3.size; omega); have II := miI p l.length w3; rw [hi] at II) | (go_at_call 55; refine II.mono ?_; rintro e w4 ⟨rfl, hb4⟩))
              go_ret
              have B3 := (below_new HB.out hb2).trans (hb3.mono (below_new HB.out hb2).size)
              exact ⟨ret_bool N.out, B3.trans (hb4.mono B3.size)⟩
            | true =>
              have Y : Hid (∀ j, j < k + 1 → minsB (l.getD j mins0) regs l.length = true) := YES.out (by rw [← AS.out, hf, hw, hi]; rfl)
              clear NO YES AS
              go_wp2_with (first | (go_at_call 53; refine FI.mono ?_; rintro e w2 ⟨rfl, hb2⟩; have hcc := bcell hb2; have z2 : wq.heap.size < w2.heap.size := (by have := hb2.size; simp at this; omega); have WI := mwI p w2; rw [hw] at WI) | (go_at_call 54; refine WI.mono ?_; rintro e w3 ⟨rfl, hb3⟩; have hcc3 := bcell hb3; have z3 : wq.heap.size < w3.heap.size := (by have := hb3.size; omega); have II := miI p l.length w3; rw [hi] at II) | (go_at_call 55; refine II.mono ?_; rintro e w4 ⟨rfl, hb4⟩))
              go_roundw
              case rel =>
                have B3 := (below_new HB.out hb2).trans (hb3.mono (below_new HB.out hb2).size)
                exact ⟨k + 1, by omega, by go_num, Y.out, B3.trans (hb4.mono B3.size)⟩
              case measure => simp [intOf]; omega
      · have N : Hid (true = codeB l regs) := by
          show _ = _
          rw [HE.out]; exact (all_yes mins0 l (fun j hj => HD.out j (by omega))).symm
        clear HD HE hcell
        go_wp2_with fail
        go_ret
        exact ⟨ret_bool N.out, hB⟩
end Go.Proofs.YtpmanjkaiknlhaaDoor
