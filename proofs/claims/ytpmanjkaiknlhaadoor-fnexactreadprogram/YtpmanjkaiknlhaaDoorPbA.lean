/- Programs as bytes: numbers one behind the other. -/
import Derived.Test.YtpmanjkaiknlhaaDoorVbA
import Derived.Test.YtpmanjkaiknlhaaDoorPgM
namespace Go.Proofs.YtpmanjkaiknlhaaDoor
open Go.RowKit
set_option linter.unusedVariables false

def minN (i : MInsD) : List Int := [i.op, i.w, i.d, i.a, i.b, i.c, i.imm]
def headN (p : ProgD) : List Int := [p.regs] ++ listN p.params ++ listN p.widths ++ [(p.code.length : Int)]
def progN (p : ProgD) : List Int := headN p ++ p.code.flatMap minN
def reg1 : ByteArray := ⟨#[82, 69, 71, 49]⟩
end Go.Proofs.YtpmanjkaiknlhaaDoor
