/- Folding an instruction: what the form tells of the fields. -/
import Derived.Test.YtoknhppjdmoblaaGreatDoorAttQ
namespace Go.Proofs.YtoknhppjdmoblaaGreatDoor
open Go.RowKit
set_option linter.unusedVariables false

theorem OkR.dflt {r : InstD} (h : OkR r) (k : Nat) : 0 ≤ (opsD r).getD k 0 ∧ (opsD r).getD k 0 ≤ 100000 := by
  rcases Nat.lt_or_ge k (opsD r).length with hk | hk
  · have e : (opsD r).getD k 0 = (opsD r)[k] := by simp [List.getD, hk]
    rw [e]
    exact h.rng _ (List.getElem_mem hk)
  · have e : (opsD r).getD k 0 = 0 := by simp [List.getD, hk]
    rw [e]; omega
theorem OkR.fields {r : InstD} (h : OkR r) : (0 ≤ r.a ∧ r.a ≤ 100000) ∧ (0 ≤ r.b ∧ r.b ≤ 100000) ∧ (0 ≤ r.c ∧ r.c ≤ 100000) := by
  have hb := h.back
  by_cases ho : r.op = 26
  · unfold mkD at hb
    rw [if_pos ho] at hb
    have ha := congrArg InstD.a hb
    have hbb := congrArg InstD.b hb
    have hc := congrArg InstD.c hb
    dsimp only at ha hbb hc
    omega
  · unfold mkD at hb
    rw [if_neg ho] at hb
    have ha := congrArg InstD.a hb
    have hbb := congrArg InstD.b hb
    have hc := congrArg InstD.c hb
    dsimp only at ha hbb hc
    have d0 := h.dflt 0
    have d1 := h.dflt 1
    have d2 := h.dflt 2
    omega
theorem OkR.sm {r : InstD} (h : OkR r) : ISm r := by
  obtain ⟨⟨_, ha⟩, ⟨_, hb⟩, _, hc⟩ := h.fields
  exact ⟨by omega, by omega, by omega⟩
theorem ok_const (w v : Int) : OkR (constD w v) := by
  have e : opsD (constD w v) = [] := by simp [opsD, constD, opB]
  refine ⟨?_, Or.inr (by rw [e]; simp), by simp [constD], by rw [e]; simp, by rw [e]; simp⟩
  rw [e]; simp [mkD, constD]
theorem ok_copy (w a : Int) (h : 0 ≤ a ∧ a ≤ 100000) : OkR (copyD w a) := by
  have e : opsD (copyD w a) = [a] := by simp [opsD, copyD, opB]
  refine ⟨?_, Or.inr (by rw [e]; simp), by simp [copyD], by rw [e]; simp, by rw [e]; simpa using h⟩
  rw [e]; simp [mkD, copyD]
theorem ok_pick {i : InstD} (h : OkR i) (n : Nat) : OkR (pickD i n) := by
  obtain ⟨ha, hb, _⟩ := h.fields
  unfold pickD
  split
  · exact ok_copy _ _ ha
  · exact ok_copy _ _ hb
  · exact ok_const _ _
  · exact ok_const _ _
  · exact h
theorem ok_ruleN {i r : InstD} {n : Nat} (h : OkR i) (e : ruleN i n = some r) : OkR r := by
  unfold ruleN at e
  split at e
  · cases e
  · cases e; exact ok_pick h n
theorem ok_rule (d : FuncD) {i : InstD} (h : OkR i) : ∀ k r, ruleK d i k = some r → OkR r
  | 0, r, e => by
    have e' : rule1 d i = some r := e
    unfold rule1 at e'
    split at e'
    · split at e'
      · split at e'
        · cases e'; exact ok_const _ _
        · cases e'; exact h
      · cases e'
    · cases e'
  | 1, r, e => ok_ruleN h (show ruleN i _ = some r from e)
  | 2, r, e => ok_ruleN h (show ruleN i _ = some r from e)
  | 3, r, e => by
    have e' : rule4 d i = some r := e
    unfold rule4 at e'
    split at e'
    · split at e'
      · cases e'; exact ok_const _ _
      · cases e'
    · cases e'
  | 4, r, e => by
    have e' : rule5 d i = some r := e
    unfold rule5 at e'
    obtain ⟨ha, hb, hc⟩ := h.fields
    split at e'
    · split at e'
      · cases e'; exact ok_copy _ _ hb
      · split at e'
        · cases e'; exact ok_copy _ _ hc
        · cases e'
    · cases e'
  | 5, r, e => by
    have e' : rule6 d i = some r := e
    unfold rule6 at e'
    split at e'
    · split at e'
      · cases e'; exact ok_const _ _
      · cases e'
    · cases e'
  | k + 6, r, e => by
    have e' : (none : Option InstD) = some r := e
    cases e'
theorem ok_inst {i : InstD} {ids : Int} (hids : ids ≤ 100000) (h : instB i ids 3 = true) : OkR i := by
  unfold instB at h
  simp only [Bool.and_eq_true] at h
  obtain ⟨⟨⟨_, _⟩, hf⟩, hall⟩ := h
  have hr : ∀ x ∈ opsD i, 0 ≤ x ∧ x ≤ 100000 := by
    intro x hx
    have := List.all_eq_true.1 hall x hx
    simp [belowB] at this
    omega
  unfold fB at hf
  by_cases ho : i.op = 26
  · rw [if_pos ho] at hf
    simp only [Bool.and_eq_true, decide_eq_true_eq, beq_iff_eq] at hf
    obtain ⟨⟨⟨hl, ha⟩, hb⟩, hc⟩ := hf
    have e : opsD i = i.args := by simp [opsD, opB, ho]
    refine ⟨?_, Or.inl ho, by omega, by rw [e]; omega, hr⟩
    rw [e]; unfold mkD; rw [if_pos ho]
    rcases i with ⟨op, w, a, b, c, imm, args⟩
    dsimp only at ha hb hc ⊢
    rw [ha, hb, hc]
  · rw [if_neg ho] at hf
    simp only [Bool.and_eq_true, Bool.or_eq_true, decide_eq_true_eq, beq_iff_eq] at hf
    obtain ⟨⟨⟨hl, ha⟩, hb⟩, hc⟩ := hf
    have hargs : i.args = [] := List.length_eq_zero_iff.1 hl
    have hle : (opsD i).length ≤ 3 ∧ mkD i.op i.w i.imm (opsD i) = i := by
      unfold mkD
      rw [if_neg ho]
      rcases i with ⟨op, w, a, b, c, imm, args⟩
      dsimp only at ha hb hc hargs ho ⊢
      subst hargs
      unfold opsD at *
      dsimp only at *
      split at ha <;> rename_i h1
      · simp [h1] at hb hc ⊢; exact hc.symm
      · split at ha <;> rename_i h2
        · simp [h1, h2] at hb hc ⊢; exact ⟨hb.symm, hc.symm⟩
        · split at ha <;> rename_i h3
          · rw [if_neg h1, if_neg h2, if_pos h3]; simp
          · simp [h1, h2, h3, ho] at ha hb hc ⊢; exact ⟨ha.symm, hb.symm, hc.symm⟩
    exact ⟨hle.2, Or.inr hle.1, by rw [hargs]; simp, by omega, hr⟩
/-- The program's FoldedInst. -/
theorem foldedI (lo : Nat) (d : FuncD) (i : InstD) (u0 : Option Addr) (c0 : Nat) (u2 : Option Addr) (c2 : Nat) (ua : Option Addr) (qa : Nat) (w : World) (hs : SmFunc d) (k0 : IntsAt w lo u0 d.params) (k2 : BlocksAt w lo u2 d.blocks) (ku : IntsAt w lo ua i.args) (hm : i.args.length ≤ 1048576) :
    Calls Tryz.prog 7 #[.agg #[.slice u0 d.params.length c0, .int .i64 d.ret, .slice u2 d.blocks.length c2], .agg #[.int .i64 i.op, .int .i64 i.w, .int .i64 i.a, .int .i64 i.b, .int .i64 i.c, .int .i64 i.imm, .slice ua i.args.length qa]] w fun e w' => InstNew w' w.heap.size (foldI d i) e ∧ Below w.heap.size w w' := by
  cases hf : funcB 3 d with
  | false => exact foldI_f lo d i u0 c0 u2 c2 ua qa w hs k0 k2 ku hm hf
  | true =>
    cases hi : instB i (cntF d) 3 with
    | false => exact foldI_s lo d i u0 c0 u2 c2 ua qa w hs k0 k2 ku hm hf hi
    | true =>
      have hc : cntF d ≤ 60 := by
        unfold funcB at hf
        simp only [Bool.and_eq_true, decide_eq_true_eq] at hf
        exact hf.1.2
      have ok := ok_inst (by omega) hi
      exact foldI_y lo d i u0 c0 u2 c2 ua qa w hs k0 k2 ku hm hf hi ok.sm (ok_rule d ok) ok
end Go.Proofs.YtoknhppjdmoblaaGreatDoor
