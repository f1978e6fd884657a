/- Folding an instruction: the model's l9Fold, whole; FoldedInst of the model. -/
import Derived.Test.YtoknhppjdmoblaaGreatDoorFdUQ
import Derived.Test.YtoknhppjdmoblaaGreatDoorFdVQ
import Derived.Test.YtoknhppjdmoblaaGreatDoorFdXQ
namespace Go.Proofs.YtoknhppjdmoblaaGreatDoor
open Go.RowKit
set_option linter.unusedVariables false
theorem foldS (lo : Nat) (d : FuncD) (i : InstD) (u0 : Option Addr) (c0 : Nat) (u2 : Option Addr) (c2 : Nat) (ua : Option Addr) (qa : Nat) (w : World) (hs : SmFunc d) (k0 : IntsAt w lo u0 d.params) (k2 : BlocksAt w lo u2 d.blocks) (ku : IntsAt w lo ua i.args) (hm : i.args.length ≤ 1048576) (hi : ISm i) :
    Calls Tryz.prog 39 #[.agg #[.slice u0 d.params.length c0, .int .i64 d.ret, .slice u2 d.blocks.length c2], .agg #[.int .i64 i.op, .int .i64 i.w, .int .i64 i.a, .int .i64 i.b, .int .i64 i.c, .int .i64 i.imm, .slice ua i.args.length qa]] w fun e w' => InstGot w' w.heap.size (foldF d i) e ∧ Below w.heap.size w w' := by
  cases ho : opB i.op with
  | true => exact foldS_two lo d i u0 c0 u2 c2 ua qa w hs k0 k2 ku hm hi ho
  | false =>
    by_cases hc : i.op = 18 ∨ i.op = 19 ∨ i.op = 20
    · exact foldS_cast lo d i u0 c0 u2 c2 ua qa w hs k0 k2 ku hm hi ho hc
    · by_cases h22 : i.op = 22
      · exact foldS_sel lo d i u0 c0 u2 c2 ua qa w hs k0 k2 ku hm hi h22
      · by_cases h27 : i.op = 27
        · exact foldS_copy lo d i u0 c0 u2 c2 ua qa w hs k0 k2 ku hm hi h27
        · exact foldS_other lo d i u0 c0 u2 c2 ua qa w hs k0 k2 ku hm hi ho hc h22 h27
theorem foldedS (lo : Nat) (d : FuncD) (i : InstD) (u0 : Option Addr) (c0 : Nat) (u2 : Option Addr) (c2 : Nat) (ua : Option Addr) (qa : Nat) (w : World) (hs : SmFunc d) (k0 : IntsAt w lo u0 d.params) (k2 : BlocksAt w lo u2 d.blocks) (ku : IntsAt w lo ua i.args) (hm : i.args.length ≤ 1048576) :
    Calls Tryz.prog 12 #[.agg #[.slice u0 d.params.length c0, .int .i64 d.ret, .slice u2 d.blocks.length c2], .agg #[.int .i64 i.op, .int .i64 i.w, .int .i64 i.a, .int .i64 i.b, .int .i64 i.c, .int .i64 i.imm, .slice ua i.args.length qa]] w fun e w' => InstGot w' w.heap.size (foldI d i) e ∧ Below w.heap.size w w' := by
  have E : foldI d i = foldM d i := by unfold foldI foldM; rw [fold_same]
  rw [E]
  cases hf : funcB 3 d with
  | false => exact foldM_f lo d i u0 c0 u2 c2 ua qa w hs k0 k2 ku hm hf
  | true =>
    have hc60 : cntF d ≤ 60 := by
      have hf2 := hf
      unfold funcB at hf2
      simp only [Bool.and_eq_true, decide_eq_true_eq] at hf2
      exact hf2.1.2
    cases hj : instB i (cntF d) 3 with
    | false => exact foldM_s lo d i u0 c0 u2 c2 ua qa w hs k0 k2 ku hm hc60 hf hj
    | true => exact foldM_y lo d i u0 c0 u2 c2 ua qa w hs k0 k2 ku hm hc60 hf hj (fun W k => foldS lo d i u0 c0 u2 c2 ua qa W hs (k0.keep (agree_of_below k lo)) (k2.keep (agree_of_below k lo)) (ku.keep (agree_of_below k lo)) hm (ok_inst (by omega) hj).sm)
end Go.Proofs.YtoknhppjdmoblaaGreatDoor
