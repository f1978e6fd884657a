/- A machine: the program's MachineRun, one contract. -/
import Derived.Test.YtofgfiakccjimaaMaL
namespace Go.Proofs.Ytofgfiakccjimaa
open Go.RowKit
set_option linter.unusedVariables false
set_option linter.unusedSimpArgs false

theorem machI (lo : Nat) (p : ProgD) (s1 : Option Addr) (c1 : Nat) (s2 : Option Addr) (c2 : Nat) (s3 : Option Addr) (c3 : Nat) (s4 : Option Addr) (c4 : Nat) (args : List Int) (mem : ByteArray) (fuel : Int) (w : World) (k1 : IntsAt w lo s1 p.params) (k2 : IntsAt w lo s2 p.widths) (k3 : MinsAt w lo s3 p.code) (k4 : IntsAt w lo s4 args) (hmsz : mem.size ≤ 1048576) :
    Calls Try.prog 15 #[.agg #[.int .i64 p.regs, .slice s1 p.params.length c1, .slice s2 p.widths.length c2, .slice s3 p.code.length c3], .slice s4 args.length c4, .string mem, .int .i64 fuel] w fun e w' => (∃ u q, e = .returned (resA (machR p args mem fuel) u q) ∧ w'.ownsRow w.heap.size 2 1 (.slice u (machR p args mem fuel).out.length q) (machR p args mem fuel).out.length ((machR p args mem fuel).out.map (Value.int .i64))) ∧ Below w.heap.size w w' := by
  by_cases hp : progB p = true
  · by_cases hv : valsB p.widths args = true
    · by_cases hm : mem.size = 32
      · by_cases f0 : fuel < 0
        · exact machI_n lo p s1 c1 s2 c2 s3 c3 s4 c4 args mem fuel w k1 k2 k3 k4 hmsz hp hv hm f0
        · by_cases f1 : fuel ≤ 20000
          · exact machI_x lo p s1 c1 s2 c2 s3 c3 s4 c4 args mem fuel w k1 k2 k3 k4 hmsz hp hv hm (by omega) f1
          · exact machI_g lo p s1 c1 s2 c2 s3 c3 s4 c4 args mem fuel w k1 k2 k3 k4 hmsz hp hv hm (by omega) (by omega)
      · exact machI_m lo p s1 c1 s2 c2 s3 c3 s4 c4 args mem fuel w k1 k2 k3 k4 hmsz hp hv hm
    · exact machI_v lo p s1 c1 s2 c2 s3 c3 s4 c4 args mem fuel w k1 k2 k3 k4 hmsz hp (by simpa using hv)
  · exact machI_p lo p s1 c1 s2 c2 s3 c3 s4 c4 args mem fuel w k1 k2 k3 k4 hmsz (by simpa using hp)
end Go.Proofs.Ytofgfiakccjimaa
