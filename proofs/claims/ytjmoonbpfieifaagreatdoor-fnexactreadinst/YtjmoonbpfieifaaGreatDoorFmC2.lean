/- Forms: the fields of an instruction; the program's side, the other kinds. -/
import Derived.Test.YtjmoonbpfieifaaGreatDoorFmC
namespace Go.Proofs.YtjmoonbpfieifaaGreatDoor
open Go.RowKit
set_option linter.unusedVariables false

set_option maxHeartbeats 1000000 in
set_option maxRecDepth 100000 in
theorem fldI_full (d : InstD) (u : Option Addr) (q : Nat) (w : World) (h6 : ¬ d.op = 26) (hz : ¬ d.args.length = 0) (hm : d.args.length ≤ 1048576) : Calls Tryz.prog 42 #[.agg #[.int .i64 d.op, .int .i64 d.w, .int .i64 d.a, .int .i64 d.b, .int .i64 d.c, .int .i64 d.imm, .slice u d.args.length q], kindV d u q] w fun e w' => e = .returned (.bool (fB d)) ∧ Below w.heap.size w w' := by
  obtain ⟨T, v, f, D⟩ := disp d u q
  rw [D.kv]
  have A2 := D.as_call h6
  have HF : Hid (false = fB d) := by show _ = _; rw [fB, if_neg h6, decide_eq_false hz]; rfl
  have hz2 : (0 : Int) < d.args.length := by omega
  clear D
  go_enter Tryz.func42, Tryz.ntmps42
  go_wp2_with fail
  go_ret
  exact ⟨ret_bool HF.out, ((Below.refl _ _).alloc (Nat.le_refl _) _).alloc (by simp) _⟩
set_option maxHeartbeats 1000000 in
set_option maxRecDepth 100000 in
theorem fldI_26 (d : InstD) (u : Option Addr) (q : Nat) (w : World) (h6 : d.op = 26) (hm : d.args.length ≤ 1048576) : Calls Tryz.prog 42 #[.agg #[.int .i64 d.op, .int .i64 d.w, .int .i64 d.a, .int .i64 d.b, .int .i64 d.c, .int .i64 d.imm, .slice u d.args.length q], kindV d u q] w fun e w' => e = .returned (.bool (fB d)) ∧ Below w.heap.size w w' := by
  rw [kv_26 h6]
  have A2 := as_callKind_callKind
  by_cases h4 : 4 < d.args.length
  · have HF : Hid (false = fB d) := by show _ = _; rw [fB, if_pos h6, decide_eq_false (by omega)]; rfl
    have h42 : (4 : Int) < d.args.length := by omega
    go_enter Tryz.func42, Tryz.ntmps42
    go_wp2_with fail
    go_ret
    exact ⟨ret_bool HF.out, by first | exact ((Below.refl _ _).alloc (Nat.le_refl _) _).alloc (by simp) _ | exact (((Below.refl _ _).alloc (Nat.le_refl _) _).alloc (by simp) _).alloc (by simp; omega) _ | exact (Below.refl _ _).alloc (Nat.le_refl _) _⟩
  · have yes' : Noughts 0 3 d.a d.b d.c → true = fB d := fun h => by
      rw [fB, if_pos h6, decide_eq_true (by omega), h.f0 (by omega) (by omega), h.f1 (by omega) (by omega), h.f2 (by omega) (by omega)]; rfl
    have no0' : 0 ≤ 0 → ¬ d.a = 0 → false = fB d := fun _ e => by rw [fB, if_pos h6]; simp [e]
    have no1' : 0 ≤ 1 → ¬ d.b = 0 → false = fB d := fun _ e => by rw [fB, if_pos h6]; simp [e]
    have no2' : 0 ≤ 2 → ¬ d.c = 0 → false = fB d := fun _ e => by rw [fB, if_pos h6]; simp [e]
    have yes : Hid (Noughts 0 3 d.a d.b d.c → true = fB d) := yes'
    have no0 : Hid (0 ≤ 0 → ¬ d.a = 0 → false = fB d) := no0'
    have no1 : Hid (0 ≤ 1 → ¬ d.b = 0 → false = fB d) := no1'
    have no2 : Hid (0 ≤ 2 → ¬ d.c = 0 → false = fB d) := no2'
    clear yes' no0' no1' no2'
    have h42 : ¬ (4 : Int) < d.args.length := by omega
    go_enter Tryz.func42, Tryz.ntmps42
    go_wp2_with fail
    go_loop [9] (fun i => ∃ k : Nat, i = .int .i64 k ∧ k ≤ 3 ∧ Hid (Noughts 0 k d.a d.b d.c)) (fun i => 3 - (intOf i).toNat)
    case atStart => exact ⟨0, by go_num, by omega, Noughts.start _ _ _ _⟩
    case round =>
      obtain ⟨k, rfl, hk1, HN⟩ := hrel
      by_cases hlt : k < 3
      · rcases (show k = 0 ∨ k = 1 ∨ k = 2 by omega) with rfl | rfl | rfl
        · by_cases h0 : d.a = 0
          · have HM : Hid (Noughts 0 1 d.a d.b d.c) := HN.out.next0 h0
            go_wp2_with fail
            exact ⟨⟨1, by go_num, by omega, by first | exact HM.out | (have hm := HM.out; rw [h0] at hm; exact hm)⟩, by simp only [intOf]; omega⟩
          · have HF : Hid (false = fB d) := no0.out (by omega) h0
            go_wp2_with fail
            go_ret
            exact ⟨ret_bool HF.out, by first | exact ((Below.refl _ _).alloc (Nat.le_refl _) _).alloc (by simp) _ | exact (((Below.refl _ _).alloc (Nat.le_refl _) _).alloc (by simp) _).alloc (by simp; omega) _ | exact (Below.refl _ _).alloc (Nat.le_refl _) _⟩
        · by_cases h0 : d.b = 0
          · have HM : Hid (Noughts 0 2 d.a d.b d.c) := HN.out.next1 h0
            go_wp2_with fail
            exact ⟨⟨2, by go_num, by omega, by first | exact HM.out | (have hm := HM.out; rw [h0] at hm; exact hm)⟩, by simp only [intOf]; omega⟩
          · have HF : Hid (false = fB d) := no1.out (by omega) h0
            go_wp2_with fail
            go_ret
            exact ⟨ret_bool HF.out, by first | exact ((Below.refl _ _).alloc (Nat.le_refl _) _).alloc (by simp) _ | exact (((Below.refl _ _).alloc (Nat.le_refl _) _).alloc (by simp) _).alloc (by simp; omega) _ | exact (Below.refl _ _).alloc (Nat.le_refl _) _⟩
        · by_cases h0 : d.c = 0
          · have HM : Hid (Noughts 0 3 d.a d.b d.c) := HN.out.next2 h0
            go_wp2_with fail
            exact ⟨⟨3, by go_num, by omega, by first | exact HM.out | (have hm := HM.out; rw [h0] at hm; exact hm)⟩, by simp only [intOf]; omega⟩
          · have HF : Hid (false = fB d) := no2.out (by omega) h0
            go_wp2_with fail
            go_ret
            exact ⟨ret_bool HF.out, by first | exact ((Below.refl _ _).alloc (Nat.le_refl _) _).alloc (by simp) _ | exact (((Below.refl _ _).alloc (Nat.le_refl _) _).alloc (by simp) _).alloc (by simp; omega) _ | exact (Below.refl _ _).alloc (Nat.le_refl _) _⟩
      · have HF : Hid (true = fB d) := yes.out (HN.out.full (by omega))
        go_wp2_with fail
        go_ret
        exact ⟨ret_bool HF.out, by first | exact ((Below.refl _ _).alloc (Nat.le_refl _) _).alloc (by simp) _ | exact (((Below.refl _ _).alloc (Nat.le_refl _) _).alloc (by simp) _).alloc (by simp; omega) _ | exact (Below.refl _ _).alloc (Nat.le_refl _) _⟩
theorem fldI (lo : Nat) (d : InstD) (u : Option Addr) (q : Nat) (w : World) (hm : d.args.length ≤ 1048576) (hk : IntsAt w lo u d.args) : Calls Tryz.prog 42 #[.agg #[.int .i64 d.op, .int .i64 d.w, .int .i64 d.a, .int .i64 d.b, .int .i64 d.c, .int .i64 d.imm, .slice u d.args.length q], kindV d u q] w fun e w' => e = .returned (.bool (fB d)) ∧ Below w.heap.size w w' := by
  by_cases h6 : d.op = 26
  · exact fldI_26 d u q w h6 hm
  by_cases hz : d.args.length = 0
  · exact fldI_more lo d u q w h6 hz hk
  exact fldI_full d u q w h6 hz hm
end Go.Proofs.YtjmoonbpfieifaaGreatDoor
