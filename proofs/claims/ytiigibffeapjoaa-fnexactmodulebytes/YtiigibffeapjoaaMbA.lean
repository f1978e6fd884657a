/- Modules as bytes: their numbers, and how many there are. -/
import Derived.Test.YtiigibffeapjoaaVbA
import Derived.Test.YtiigibffeapjoaaFmG
namespace Go.Proofs.Ytiigibffeapjoaa
open Go.RowKit
set_option linter.unusedVariables false

def immM (op : Int) : Bool := op == 21 || op == 26
def instM (d : InstD) : List Int := [d.op, d.w] ++ (if immM d.op = true then [d.imm] else []) ++ listN (opsD d)
def phiM (p : PhiD) : List Int := p.w :: listN p.ins
def phisM (l : List PhiD) : List Int := (l.length : Int) :: l.flatMap phiM
def instsM (l : List InstD) : List Int := (l.length : Int) :: l.flatMap instM
def termNs (t : TermD) : List Int := if t.kind = 1 then [t.a] else if t.kind = 2 then [t.x] else if t.kind = 3 then [t.a, t.x, t.y] else []
def termM (t : TermD) : List Int := t.kind :: termNs t
def blockM (b : BlockD) : List Int := phisM b.phis ++ instsM b.insts ++ termM b.term
def fheadM (f : FuncD) : List Int := f.ret :: (listN f.params ++ [(f.blocks.length : Int)])
def funcM (f : FuncD) : List Int := fheadM f ++ f.blocks.flatMap blockM
def modM (l : List FuncD) : List Int := (l.length : Int) :: l.flatMap funcM
def ssa1 : ByteArray := ⟨#[83, 83, 65, 49]⟩
theorem take_snocG {α : Type} {l : List α} {z : α} {k : Nat} (h : k < l.length) : l.take (k + 1) = l.take k ++ [l.getD k z] := by
  rw [List.take_succ_eq_append_getElem h]; simp [List.getD, h]
theorem flat_snoc {α : Type} {l : List α} {z : α} {k : Nat} (g : α → List Int) (h : k < l.length) : (l.take (k + 1)).flatMap g = (l.take k).flatMap g ++ g (l.getD k z) := by
  rw [take_snocG (z := z) h, List.flatMap_append]; simp
theorem flat_le {α : Type} (l : List α) (g : α → List Int) (k : Nat) : ((l.take k).flatMap g).length ≤ (l.flatMap g).length := by
  have := List.take_append_drop k l
  rw [← this, List.flatMap_append, List.length_append, this]
  omega
theorem flat_all {α : Type} (l : List α) (g : α → List Int) {k : Nat} (h : ¬ k < l.length) : (l.take k).flatMap g = l.flatMap g := by
  rw [List.take_of_length_le (by omega)]
theorem flat_bound {α : Type} (g : α → List Int) (n : Nat) : ∀ l : List α, (∀ x ∈ l, (g x).length ≤ n) → (l.flatMap g).length ≤ n * l.length
  | [], _ => by simp
  | x :: l, h => by
    have h1 := h x (by simp)
    have h2 := flat_bound g n l (fun y hy => h y (by simp [hy]))
    rw [List.flatMap_cons, List.length_append, List.length_cons]
    rw [Nat.mul_add]; omega
theorem ops_len4 {d : InstD} {ids funcs : Int} (h : instB d ids funcs = true) : (opsD d).length ≤ 4 := by
  simp only [instB, Bool.and_eq_true] at h
  obtain ⟨⟨⟨hw, hi⟩, hf⟩, ho⟩ := h
  have ha : d.op = 26 → d.args.length ≤ 4 := fun e => by
    rw [fB, if_pos e] at hf
    simp at hf
    omega
  unfold opsD
  split
  · simp
  · split
    · simp
    · split
      · simp
      · split
        · rename_i h; exact ha h
        · simp
theorem instM_len {d : InstD} {ids funcs : Int} (h : instB d ids funcs = true) : (instM d).length ≤ 12 := by
  have := ops_len4 h
  unfold instM listN
  split <;> simp <;> omega
theorem phiM_len {p : PhiD} {ids : Int} (h : phiB ids p = true) : (phiM p).length ≤ 12 := by
  simp [phiB] at h
  simp [phiM, listN]; omega
theorem termM_len (t : TermD) : (termM t).length ≤ 4 := by
  unfold termM termNs
  split
  · simp
  · split
    · simp
    · split <;> simp
theorem blockM_len {b : BlockD} {ids blocks funcs : Int} (h : blockB ids blocks funcs b = true) : (blockM b).length ≤ 6 + 12 * cntB b := by
  simp only [blockB, Bool.and_eq_true] at h
  have h1 := flat_bound phiM 12 b.phis (fun x hx => phiM_len (List.all_eq_true.1 h.1.1 x hx))
  have h2 := flat_bound instM 12 b.insts (fun x hx => instM_len (List.all_eq_true.1 h.1.2 x hx))
  have h3 := termM_len b.term
  unfold blockM phisM instsM cntB
  simp only [List.length_append, List.length_cons]
  rw [Nat.mul_add]; omega
theorem blocksM_len {ids blocks funcs : Int} : ∀ l : List BlockD, l.all (blockB ids blocks funcs) = true → (l.flatMap blockM).length ≤ 6 * l.length + 12 * cntL l
  | [], _ => by simp
  | b :: l, h => by
    simp only [List.all_cons, Bool.and_eq_true] at h
    have h1 := blockM_len h.1
    have h2 := blocksM_len l h.2
    have h3 : cntL (b :: l) = cntB b + cntL l := by simp [cntL]
    rw [List.flatMap_cons, List.length_append, List.length_cons, h3, Nat.mul_add, Nat.mul_add]; omega
/-- What the form of a function tells of its size. -/
theorem funcB_parts {d : FuncD} {funcs : Int} (h : funcB funcs d = true) : d.params.length ≤ 4 ∧ d.blocks.length ≤ 10 ∧ cntF d ≤ 60 ∧ d.blocks.all (blockB (cntF d) d.blocks.length funcs) = true := by
  simp only [funcB, Bool.and_eq_true, decide_eq_true_eq] at h
  obtain ⟨⟨⟨⟨⟨⟨h1, _⟩, _⟩, _⟩, h5⟩, h6⟩, h7⟩ := h
  exact ⟨h1, h5, h6, h7⟩
theorem funcM_len {d : FuncD} {funcs : Int} (h : funcB funcs d = true) : (funcM d).length ≤ 800 := by
  obtain ⟨h1, h2, h3, h4⟩ := funcB_parts h
  have h5 := blocksM_len d.blocks h4
  have h6 : cntL d.blocks ≤ 60 := by unfold cntF at h3; omega
  unfold funcM fheadM listN
  simp only [List.length_append, List.length_cons, List.length_nil]
  omega
theorem modB_parts {l : List FuncD} (h : modB l = true) : l.length ≤ 3 ∧ ∀ d ∈ l, funcB l.length d = true := by
  simp only [modB, Bool.and_eq_true, decide_eq_true_eq] at h
  exact ⟨h.1.2, fun d hd => List.all_eq_true.1 h.2 d hd⟩
theorem modM_len {l : List FuncD} (h : modB l = true) : (modM l).length ≤ 2500 := by
  obtain ⟨h1, h2⟩ := modB_parts h
  have := flat_bound funcM 800 l (fun d hd => funcM_len (h2 d hd))
  unfold modM
  rw [List.length_cons]; omega
end Go.Proofs.Ytiigibffeapjoaa
