/- Folding an instruction: the program's rule of one constant, all. -/
import Derived.Test.YtoknhppjdmoblaaGreatDoorFdEQ
import Derived.Test.YtoknhppjdmoblaaGreatDoorFdFQ
namespace Go.Proofs.YtoknhppjdmoblaaGreatDoor
open Go.RowKit
set_option linter.unusedVariables false

theorem rule2I (lo : Nat) (d : FuncD) (i : InstD) (u0 : Option Addr) (c0 : Nat) (u2 : Option Addr) (c2 : Nat) (ua : Option Addr) (qa : Nat) (w : World) (hs : SmFunc d) (k0 : IntsAt w lo u0 d.params) (k2 : BlocksAt w lo u2 d.blocks) (ku : IntsAt w lo ua i.args) (hi : ISm i) :
    Calls Tryz.prog 60 #[.agg #[.slice u0 d.params.length c0, .int .i64 d.ret, .slice u2 d.blocks.length c2, .int .i64 i.op, .int .i64 i.w, .int .i64 i.a, .int .i64 i.b, .int .i64 i.c, .int .i64 i.imm, .slice ua i.args.length qa]] w fun e w' => InstTold w lo (rule2 d i) e ∧ Below w.heap.size w w' := by
  by_cases h1 : i.op = 1
  · exact rule2_1 lo d i u0 c0 u2 c2 ua qa w hs k0 k2 ku hi h1
  by_cases h9 : i.op = 9
  · exact rule2_9 lo d i u0 c0 u2 c2 ua qa w hs k0 k2 ku hi h9
  by_cases h10 : i.op = 10
  · exact rule2_10 lo d i u0 c0 u2 c2 ua qa w hs k0 k2 ku hi h10
  by_cases h2 : i.op = 2
  · exact rule2_2 lo d i u0 c0 u2 c2 ua qa w hs k0 k2 ku hi h2
  by_cases h11 : i.op = 11
  · exact rule2_11 lo d i u0 c0 u2 c2 ua qa w hs k0 k2 ku hi h11
  by_cases h12 : i.op = 12
  · exact rule2_12 lo d i u0 c0 u2 c2 ua qa w hs k0 k2 ku hi h12
  by_cases h13 : i.op = 13
  · exact rule2_13 lo d i u0 c0 u2 c2 ua qa w hs k0 k2 ku hi h13
  by_cases h4 : i.op = 4
  · exact rule2_4 lo d i u0 c0 u2 c2 ua qa w hs k0 k2 ku hi h4
  by_cases h3 : i.op = 3
  · exact rule2_3 lo d i u0 c0 u2 c2 ua qa w hs k0 k2 ku hi h3
  by_cases h8 : i.op = 8
  · exact rule2_8 lo d i u0 c0 u2 c2 ua qa w hs k0 k2 ku hi h8
  exact rule2_no lo d i u0 c0 u2 c2 ua qa w hs k0 k2 ku hi ⟨h1, h9, h10, h2, h11, h12, h13, h4, h3, h8⟩
end Go.Proofs.YtoknhppjdmoblaaGreatDoor
