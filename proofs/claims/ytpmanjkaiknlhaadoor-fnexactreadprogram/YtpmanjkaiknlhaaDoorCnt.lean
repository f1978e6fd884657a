/- How many ids a function has: the contracts of CountOf, the program's and the model's. -/
import Derived.Test.YtpmanjkaiknlhaaDoorTo2
import Derived.Test.YtpmanjkaiknlhaaDoorEq2
namespace Go.Proofs.YtpmanjkaiknlhaaDoor
open Go.RowKit

def cntB (d : BlockD) : Nat := d.phis.length + d.insts.length
def cntL : List BlockD → Nat
  | [] => 0
  | d :: r => cntB d + cntL r
def cntF (d : FuncD) : Nat := d.params.length + cntL d.blocks
theorem cntL_append (a b : List BlockD) : cntL (a ++ b) = cntL a + cntL b := by
  induction a with
  | nil => simp [cntL]
  | cons d r ih => simp [cntL, ih]; omega
theorem cntL_take (l : List BlockD) (k : Nat) (h : k < l.length) : cntL (l.take (k + 1)) = cntL (l.take k) + cntB (l.getD k block0) := by
  rw [List.take_succ_eq_append_getElem h, cntL_append]
  simp [cntL, List.getD, h]
theorem cntL_le (l : List BlockD) (hs : ∀ d ∈ l, SmBlock d) : cntL l ≤ l.length * 2097152 := by
  induction l with
  | nil => simp [cntL]
  | cons d r ih =>
    have h1 := ih fun x hx => hs x (List.mem_cons_of_mem _ hx)
    have h2 := hs d (List.mem_cons_self ..)
    have h3 := h2.1.1
    have h4 := h2.2.1
    simp only [cntL, cntB, List.length_cons]; omega
theorem cnt_take_le (l : List BlockD) (k : Nat) (hl : l.length ≤ 1048576) (hs : ∀ d ∈ l, SmBlock d) : cntL (l.take k) ≤ 2199023255552 := by
  have h := cntL_le (l.take k) fun d hd => hs d (List.mem_of_mem_take hd)
  have : (l.take k).length ≤ 1048576 := by simp; omega
  omega
theorem cntF_le {d : FuncD} (hs : SmFunc d) : cntF d ≤ 2199024304128 := by
  have h := cnt_take_le d.blocks d.blocks.length hs.2.1 hs.2.2
  rw [List.take_length] at h
  have := hs.1
  unfold cntF; omega

end Go.Proofs.YtpmanjkaiknlhaaDoor
