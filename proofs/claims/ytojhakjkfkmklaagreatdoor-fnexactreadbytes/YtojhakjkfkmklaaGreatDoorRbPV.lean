import Derived.Test.YtojhakjkfkmklaaGreatDoorFmGV
namespace Go.Proofs.YtojhakjkfkmklaaGreatDoor
open Go.RowKit
set_option linter.unusedVariables false
def mkD (op w imm : Int) (l : List Int) : InstD := if op = 26 then ⟨op, w, 0, 0, 0, imm, l⟩ else ⟨op, w, l.getD 0 0, l.getD 1 0, l.getD 2 0, imm, []⟩
abbrev Rdr (α : Type) := List Int → Option (α × List Int)
def pList : Rdr (List Int)
 | [] => none
 | k :: r => if k ≤ (r.length : Int) then some (r.take k.toNat, r.drop k.toNat) else none
def pImm (op : Int) (r : List Int) : Option (Int × List Int) := if immM op = true then (match r with | x :: r' => some (x, r') | [] => none) else some (0, r)
def pInst : Rdr InstD
 | op :: w :: r => match pImm op r with
  | none => none
  | some (imm, r2) => match pList r2 with
   | none => none
   | some (l, r3) => if opsD (mkD op w imm l) = l then some (mkD op w imm l, r3) else none
 | _ => none
def pPhi : Rdr PhiD
 | w :: r => match pList r with
  | none => none
  | some (l, r2) => some (⟨w, l⟩, r2)
 | _ => none
def pT1 : Rdr TermD
 | a :: r => some (⟨1, a, 0, 0⟩, r)
 | [] => none
def pT2 : Rdr TermD
 | x :: r => some (⟨2, 0, x, 0⟩, r)
 | [] => none
def pT3 : Rdr TermD
 | a :: x :: y :: r => some (⟨3, a, x, y⟩, r)
 | _ => none
def pTerm : Rdr TermD
 | k :: r => if k = 1 then pT1 r else if k = 2 then pT2 r else if k = 3 then pT3 r else some (⟨k, 0, 0, 0⟩, r)
 | [] => none
def pMany {α : Type} (p : Rdr α) : Nat → Rdr (List α)
 | 0, L => some ([], L)
 | n + 1, L => match p L with
  | none => none
  | some (x, L') => match pMany p n L' with
   | none => none
   | some (xs, L'') => some (x :: xs, L'')
def pCount {α : Type} (p : Rdr α) : Rdr (List α)
 | [] => none
 | k :: r => pMany p k.toNat r
def pBlock : Rdr BlockD := fun L => match pCount pPhi L with
 | none => none
 | some (ps, L1) => match pCount pInst L1 with
  | none => none
  | some (is, L2) => match pTerm L2 with
   | none => none
   | some (t, L3) => some (⟨ps, is, t⟩, L3)
def pFunc : Rdr FuncD
 | ret :: r => match pList r with
  | none => none
  | some (ps, L1) => match pCount pBlock L1 with
   | none => none
   | some (bs, L2) => some (⟨ps, ret, bs⟩, L2)
 | _ => none
def pMod (L : List Int) : Option (List FuncD) := match pCount pFunc L with
 | some (l, []) => some l
 | _ => none
theorem pMany_snoc {α : Type} {p : Rdr α} : ∀ {j : Nat} {L0 L L' : List Int} {xs : List α} {x : α}, pMany p j L0 = some (xs, L) → p L = some (x, L') → pMany p (j + 1) L0 = some (xs ++ [x], L')
 | 0, L0, L, L', xs, x, h, hp => by
  simp only [pMany, Option.some.injEq, Prod.mk.injEq] at h
  obtain ⟨rfl, rfl⟩ := h
  simp [pMany, hp]
 | j + 1, L0, L, L', xs, x, h, hp => by
  rw [pMany] at h
  cases e : p L0 with
  | none => rw [e] at h; cases h
  | some a =>
   obtain ⟨y, L1⟩ := a
   rw [e] at h
   dsimp only at h
   cases e2 : pMany p j L1 with
   | none => rw [e2] at h; cases h
   | some b =>
    obtain ⟨ys, L2⟩ := b
    rw [e2] at h
    simp only [Option.some.injEq, Prod.mk.injEq] at h
    obtain ⟨rfl, rfl⟩ := h
    rw [pMany, e]
    dsimp only
    rw [pMany_snoc e2 hp]
    rfl
theorem pMany_stop {α : Type} {p : Rdr α} : ∀ {j n : Nat} {L0 L : List Int} {xs : List α}, pMany p j L0 = some (xs, L) → p L = none → j < n → pMany p n L0 = none
 | 0, n, L0, L, xs, h, hp, hn => by
  simp only [pMany, Option.some.injEq, Prod.mk.injEq] at h
  obtain ⟨rfl, rfl⟩ := h
  obtain ⟨m, rfl⟩ : ∃ m, n = m + 1 := ⟨n - 1, by omega⟩
  simp [pMany, hp]
 | j + 1, n, L0, L, xs, h, hp, hn => by
  obtain ⟨m, rfl⟩ : ∃ m, n = m + 1 := ⟨n - 1, by omega⟩
  rw [pMany] at h ⊢
  cases e : p L0 with
  | none => rfl
  | some a =>
   obtain ⟨y, L1⟩ := a
   rw [e] at h
   dsimp only at h ⊢
   cases e2 : pMany p j L1 with
   | none => rw [e2] at h; cases h
   | some b =>
    obtain ⟨ys, L2⟩ := b
    rw [e2] at h
    simp only [Option.some.injEq, Prod.mk.injEq] at h
    obtain ⟨rfl, rfl⟩ := h
    rw [pMany_stop e2 hp (by omega)]
def Pos (l : List Int) : Prop := ∀ x ∈ l, 0 ≤ x
theorem Pos.tail {x : Int} {l : List Int} (h : Pos (x :: l)) : Pos l := fun y hy => h y (List.mem_cons_of_mem _ hy)
theorem Pos.right {a b : List Int} (h : Pos (a ++ b)) : Pos b := fun y hy => h y (List.mem_append_right _ hy)
theorem pList_yes {L r l : List Int} (hp : Pos L) (h : pList L = some (l, r)) : L = listN l ++ r := by
 cases L with
 | nil => cases h
 | cons k t =>
  rw [pList] at h
  by_cases hk : k ≤ (t.length : Int)
  ·rw [if_pos hk] at h
   simp only [Option.some.injEq, Prod.mk.injEq] at h
   obtain ⟨rfl, rfl⟩ := h
   have h0 := hp k (List.mem_cons_self ..)
   have hl : (t.take k.toNat).length = k.toNat := by rw [List.length_take]; omega
   unfold listN
   rw [hl, List.cons_append, List.take_append_drop]
   congr 1
   omega
  ·rw [if_neg hk] at h; cases h
theorem pList_back (l r : List Int) : pList (listN l ++ r) = some (l, r) := by
 unfold listN
 rw [List.cons_append, pList]
 rw [if_pos (by rw [List.length_append]; omega)]
 simp
theorem pImm_yes {op x : Int} {r r2 : List Int} (h : pImm op r = some (x, r2)) : r = (if immM op = true then [x] else []) ++ r2 ∧ (immM op = false → x = 0) := by
 unfold pImm at h
 by_cases hi : immM op = true
 ·rw [if_pos hi] at h ⊢
  cases r with
  | nil => cases h
  | cons y r' =>
   simp only [Option.some.injEq, Prod.mk.injEq] at h
   obtain ⟨rfl, rfl⟩ := h
   exact ⟨rfl, fun e => by rw [hi] at e; cases e⟩
 ·rw [if_neg hi] at h ⊢
  simp only [Option.some.injEq, Prod.mk.injEq] at h
  obtain ⟨rfl, rfl⟩ := h
  exact ⟨rfl, fun _ => rfl⟩
theorem mkD_fields (op w imm : Int) (l : List Int) : (mkD op w imm l).op = op ∧ (mkD op w imm l).w = w ∧ (mkD op w imm l).imm = imm := by
 unfold mkD
 split
 ·exact ⟨rfl, rfl, rfl⟩
 ·exact ⟨rfl, rfl, rfl⟩
theorem pInst_yes {L r : List Int} {d : InstD} (hp : Pos L) (h : pInst L = some (d, r)) : L = instM d ++ r := by
 match L, h with
 | op :: w :: t, h =>
  rw [pInst] at h
  cases e : pImm op t with
  | none => rw [e] at h; cases h
  | some a =>
   obtain ⟨imm, r2⟩ := a
   rw [e] at h
   dsimp only at h
   obtain ⟨e1, _⟩ := pImm_yes e
   cases e2 : pList r2 with
   | none => rw [e2] at h; cases h
   | some b =>
    obtain ⟨l, r3⟩ := b
    rw [e2] at h
    dsimp only at h
    by_cases ho : opsD (mkD op w imm l) = l
    ·rw [if_pos ho] at h
     simp only [Option.some.injEq, Prod.mk.injEq] at h
     obtain ⟨rfl, rfl⟩ := h
     have e3 := pList_yes (by rw [e1] at hp; exact hp.tail.tail.right) e2
     obtain ⟨f1, f2, f3⟩ := mkD_fields op w imm l
     unfold instM
     rw [f1, f2, f3, ho, e1, e3]
     simp
    ·rw [if_neg ho] at h; cases h
def Plain (d : InstD) : Prop := d = mkD d.op d.w d.imm (opsD d) ∧ (immM d.op = false → d.imm = 0)
theorem pInst_back {d : InstD} (h : Plain d) (r : List Int) : pInst (instM d ++ r) = some (d, r) := by
 have h1 := h.1
 unfold instM
 simp only [List.cons_append, List.nil_append, List.append_assoc]
 rw [pInst]
 unfold pImm
 by_cases hi : immM d.op = true
 ·simp only [if_pos hi, List.cons_append, List.nil_append, pList_back]
  rw [← h1, if_pos rfl]
 ·have h2 := h.2 (by simpa using hi)
  simp only [if_neg hi, List.nil_append, pList_back]
  rw [← h2, ← h1, if_pos rfl]
theorem pPhi_yes {L r : List Int} {d : PhiD} (hp : Pos L) (h : pPhi L = some (d, r)) : L = phiM d ++ r := by
 match L, h with
 | w :: t, h =>
  rw [pPhi] at h
  cases e : pList t with
  | none => rw [e] at h; cases h
  | some a =>
   obtain ⟨l, r2⟩ := a
   rw [e] at h
   simp only [Option.some.injEq, Prod.mk.injEq] at h
   obtain ⟨rfl, rfl⟩ := h
   rw [pList_yes hp.tail e]
   rfl
theorem pPhi_back (d : PhiD) (r : List Int) : pPhi (phiM d ++ r) = some (d, r) := by
 unfold phiM
 rw [List.cons_append, pPhi, pList_back]
def PlainT (t : TermD) : Prop := (t.kind = 1 → t.x = 0 ∧ t.y = 0) ∧ (t.kind = 2 → t.a = 0 ∧ t.y = 0) ∧ (¬ t.kind = 1 → ¬ t.kind = 2 → ¬ t.kind = 3 → t.a = 0 ∧ t.x = 0 ∧ t.y = 0)
theorem pTerm_yes {L r : List Int} {t : TermD} (h : pTerm L = some (t, r)) : L = termM t ++ r := by
 match L, h with
 | k :: s, h =>
  rw [pTerm] at h
  by_cases k1 : k = 1
  ·rw [if_pos k1] at h
   match s, h with
   | a :: r', h =>
    rw [pT1] at h
    simp only [Option.some.injEq, Prod.mk.injEq] at h
    obtain ⟨rfl, rfl⟩ := h
    simp [termM, termNs, k1]
  rw [if_neg k1] at h
  by_cases k2 : k = 2
  ·rw [if_pos k2] at h
   match s, h with
   | a :: r', h =>
    rw [pT2] at h
    simp only [Option.some.injEq, Prod.mk.injEq] at h
    obtain ⟨rfl, rfl⟩ := h
    simp [termM, termNs, k2]
  rw [if_neg k2] at h
  by_cases k3 : k = 3
  ·rw [if_pos k3] at h
   match s, h with
   | a :: x :: y :: r', h =>
    rw [pT3] at h
    simp only [Option.some.injEq, Prod.mk.injEq] at h
    obtain ⟨rfl, rfl⟩ := h
    simp [termM, termNs, k3]
  rw [if_neg k3] at h
  simp only [Option.some.injEq, Prod.mk.injEq] at h
  obtain ⟨rfl, rfl⟩ := h
  simp [termM, termNs, k1, k2, k3]
theorem pTerm_back {t : TermD} (h : PlainT t) (r : List Int) : pTerm (termM t ++ r) = some (t, r) := by
 obtain ⟨k, a, x, y⟩ := t
 obtain ⟨h1, h2, h3⟩ := h
 dsimp only at h1 h2 h3
 unfold termM termNs
 dsimp only
 rw [List.cons_append, pTerm]
 by_cases k1 : k = 1
 ·obtain ⟨rfl, rfl⟩ := h1 k1
  simp [k1, pT1]
 by_cases k2 : k = 2
 ·obtain ⟨rfl, rfl⟩ := h2 k2
  simp [k2, pT2]
 by_cases k3 : k = 3
 ·simp [k3, pT3]
 obtain ⟨rfl, rfl, rfl⟩ := h3 k1 k2 k3
 simp [k1, k2, k3]
theorem pMany_yes {α : Type} {p : Rdr α} {g : α → List Int} (hg : ∀ {L r : List Int} {x : α}, Pos L → p L = some (x, r) → L = g x ++ r) : ∀ {n : Nat} {L r : List Int} {xs : List α}, Pos L → pMany p n L = some (xs, r) → L = xs.flatMap g ++ r ∧ xs.length = n
 | 0, L, r, xs, _, h => by
  simp only [pMany, Option.some.injEq, Prod.mk.injEq] at h
  obtain ⟨rfl, rfl⟩ := h
  exact ⟨rfl, rfl⟩
 | n + 1, L, r, xs, hp, h => by
  rw [pMany] at h
  cases e : p L with
  | none => rw [e] at h; cases h
  | some a =>
   obtain ⟨y, L1⟩ := a
   rw [e] at h
   dsimp only at h
   have e1 := hg hp e
   cases e2 : pMany p n L1 with
   | none => rw [e2] at h; cases h
   | some b =>
    obtain ⟨ys, L2⟩ := b
    rw [e2] at h
    simp only [Option.some.injEq, Prod.mk.injEq] at h
    obtain ⟨rfl, rfl⟩ := h
    obtain ⟨k1, k2⟩ := pMany_yes hg (by rw [e1] at hp; exact hp.right) e2
    exact ⟨by rw [e1, k1, List.flatMap_cons, List.append_assoc], by simp [k2]⟩
theorem pMany_back {α : Type} {p : Rdr α} {g : α → List Int} {C : α → Prop} (hg : ∀ (x : α) (r : List Int), C x → p (g x ++ r) = some (x, r)) : ∀ (xs : List α) (r : List Int), (∀ x ∈ xs, C x) → pMany p xs.length (xs.flatMap g ++ r) = some (xs, r)
 | [], r, _ => rfl
 | x :: xs, r, h => by
  rw [List.flatMap_cons, List.append_assoc, List.length_cons, pMany, hg x _ (h x (List.mem_cons_self ..))]
  dsimp only
  rw [pMany_back hg xs r (fun y hy => h y (List.mem_cons_of_mem _ hy))]
theorem pCount_yes {α : Type} {p : Rdr α} {g : α → List Int} (hg : ∀ {L r : List Int} {x : α}, Pos L → p L = some (x, r) → L = g x ++ r) {L r : List Int} {xs : List α} (hp : Pos L) (h : pCount p L = some (xs, r)) : L = (xs.length : Int) :: xs.flatMap g ++ r := by
 cases L with
 | nil => cases h
 | cons k t =>
  obtain ⟨h1, h2⟩ := pMany_yes hg hp.tail h
  have h0 := hp k (List.mem_cons_self ..)
  rw [h1, List.cons_append]
  congr 1
  omega
theorem pCount_back {α : Type} {p : Rdr α} {g : α → List Int} {C : α → Prop} (hg : ∀ (x : α) (r : List Int), C x → p (g x ++ r) = some (x, r)) (xs : List α) (r : List Int) (h : ∀ x ∈ xs, C x) : pCount p ((xs.length : Int) :: xs.flatMap g ++ r) = some (xs, r) := by
 rw [List.cons_append]
 show pMany p (xs.length : Int).toNat _ = _
 rw [Int.toNat_natCast]
 exact pMany_back hg xs r h
theorem pBlock_yes {L r : List Int} {b : BlockD} (hp : Pos L) (h : pBlock L = some (b, r)) : L = blockM b ++ r := by
 unfold pBlock at h
 cases e : pCount pPhi L with
 | none => rw [e] at h; cases h
 | some a =>
  obtain ⟨ps, L1⟩ := a
  rw [e] at h
  dsimp only at h
  have e1 := pCount_yes (fun hp h => pPhi_yes hp h) hp e
  have hp1 : Pos L1 := by rw [e1] at hp; exact hp.right
  cases e2 : pCount pInst L1 with
  | none => rw [e2] at h; cases h
  | some a =>
   obtain ⟨is, L2⟩ := a
   rw [e2] at h
   dsimp only at h
   have e3 := pCount_yes (fun hp h => pInst_yes hp h) hp1 e2
   cases e4 : pTerm L2 with
   | none => rw [e4] at h; cases h
   | some a =>
    obtain ⟨t, L3⟩ := a
    rw [e4] at h
    simp only [Option.some.injEq, Prod.mk.injEq] at h
    obtain ⟨rfl, rfl⟩ := h
    rw [e1, e3, pTerm_yes e4]
    simp [blockM, phisM, instsM]
def PlainB (b : BlockD) : Prop := (∀ i ∈ b.insts, Plain i) ∧ PlainT b.term
theorem pBlock_back {b : BlockD} (h : PlainB b) (r : List Int) : pBlock (blockM b ++ r) = some (b, r) := by
 unfold blockM phisM instsM pBlock
 rw [List.append_assoc, List.append_assoc, pCount_back (C := fun _ => True) (fun x r _ => pPhi_back x r) _ _ (fun _ _ => trivial)]
 dsimp only
 rw [pCount_back (C := Plain) (fun x r hx => pInst_back hx r) _ _ h.1]
 dsimp only
 rw [pTerm_back h.2]
theorem pFunc_yes {L r : List Int} {d : FuncD} (hp : Pos L) (h : pFunc L = some (d, r)) : L = funcM d ++ r := by
 match L, h with
 | ret :: t, h =>
  rw [pFunc] at h
  cases e : pList t with
  | none => rw [e] at h; cases h
  | some a =>
   obtain ⟨ps, L1⟩ := a
   rw [e] at h
   dsimp only at h
   have e1 := pList_yes hp.tail e
   have hp1 : Pos L1 := by rw [e1] at hp; exact hp.tail.right
   cases e2 : pCount pBlock L1 with
   | none => rw [e2] at h; cases h
   | some a =>
    obtain ⟨bs, L2⟩ := a
    rw [e2] at h
    simp only [Option.some.injEq, Prod.mk.injEq] at h
    obtain ⟨rfl, rfl⟩ := h
    rw [e1, pCount_yes (fun hp h => pBlock_yes hp h) hp1 e2]
    simp [funcM, fheadM]
def PlainF (d : FuncD) : Prop := ∀ b ∈ d.blocks, PlainB b
theorem pFunc_back {d : FuncD} (h : PlainF d) (r : List Int) : pFunc (funcM d ++ r) = some (d, r) := by
 have e : funcM d ++ r = d.ret :: (listN d.params ++ ((d.blocks.length : Int) :: d.blocks.flatMap blockM ++ r)) := by simp [funcM, fheadM]
 rw [e, pFunc, pList_back]
 dsimp only
 rw [pCount_back (C := PlainB) (fun x r hx => pBlock_back hx r) _ _ h]
theorem pMod_yes {L : List Int} {l : List FuncD} (hp : Pos L) (h : pMod L = some l) : L = modM l := by
 unfold pMod at h
 cases e : pCount pFunc L with
 | none => rw [e] at h; cases h
 | some a =>
  obtain ⟨xs, L1⟩ := a
  rw [e] at h
  cases L1 with
  | cons _ _ => cases h
  | nil =>
   cases h
   have := pCount_yes (fun hp h => pFunc_yes hp h) hp e
   rw [this]
   simp [modM]
theorem pMod_back {l : List FuncD} (h : ∀ d ∈ l, PlainF d) : pMod (modM l) = some l := by
 have e := pCount_back (C := PlainF) (fun x r hx => pFunc_back hx r) l [] h
 rw [List.append_nil] at e
 unfold pMod modM
 rw [e]
theorem plain_of {d : InstD} {ids funcs : Int} (h : instB d ids funcs = true) : Plain d := by
 obtain ⟨op, w, a, b, c, imm, args⟩ := d
 simp only [instB, Bool.and_eq_true] at h
 obtain ⟨⟨⟨hw, hi⟩, hf⟩, _⟩ := h
 refine ⟨?_, fun e => ?_⟩
 ·by_cases h26 : op = 26
  ·subst h26
   simp only [fB, if_pos, Bool.and_eq_true, beq_iff_eq] at hf
   simp only [mkD, if_pos]
   have e : opsD ⟨26, w, a, b, c, imm, args⟩ = args := rfl
   rw [e]
   simp [hf.1.1.2, hf.1.2, hf.2]
  ·rw [fB, if_neg h26] at hf
   simp only [Bool.and_eq_true, decide_eq_true_eq, Bool.or_eq_true, beq_iff_eq] at hf
   obtain ⟨⟨⟨f0, f1⟩, f2⟩, f3⟩ := hf
   have ha : args = [] := List.length_eq_zero_iff.1 f0
   subst ha
   simp only [mkD, if_neg h26]
   have key : (opsD ⟨op, w, a, b, c, imm, []⟩).getD 0 0 = a ∧ (opsD ⟨op, w, a, b, c, imm, []⟩).getD 1 0 = b ∧ (opsD ⟨op, w, a, b, c, imm, []⟩).getD 2 0 = c := by
    revert f1 f2 f3
    unfold opsD
    repeat' split
    all_goals
     intro f1 f2 f3
     simp at f1 f2 f3 ⊢
     try omega
     try simp_all
   obtain ⟨k1, k2, k3⟩ := key
   simp only [k1, k2, k3]
 ·simp only [immM, Bool.or_eq_false_iff, beq_eq_false_iff_ne, ne_eq] at e
  rw [iB, if_neg e.1, if_neg e.2] at hi
  simpa using hi
theorem plainT_of {t : TermD} {ids blocks : Int} (h : termB t ids blocks = true) : PlainT t := by
 obtain ⟨k, a, x, y⟩ := t
 unfold termB at h
 refine ⟨fun e => ?_, fun e => ?_, fun e1 e2 e3 => ?_⟩
 ·dsimp only at e h
  rw [if_pos e] at h
  simp only [Bool.and_eq_true, beq_iff_eq] at h
  exact ⟨h.1.2, h.2⟩
 ·dsimp only at e h
  rw [if_neg (by omega), if_pos e] at h
  simp only [Bool.and_eq_true, beq_iff_eq] at h
  exact ⟨h.1.2, h.2⟩
 ·dsimp only at e1 e2 e3 h
  rw [if_neg e1, if_neg e2, if_neg e3] at h
  simp only [Bool.and_eq_true, beq_iff_eq] at h
  exact ⟨h.1.1.2, h.1.2, h.2⟩
theorem plain_mod {l : List FuncD} (h : modB l = true) : ∀ d ∈ l, PlainF d := fun d hd b hb => by
 obtain ⟨_, h2⟩ := modB_parts h
 obtain ⟨_, _, _, h4⟩ := funcB_parts (h2 d hd)
 have h5 := List.all_eq_true.1 h4 b hb
 simp only [blockB, Bool.and_eq_true] at h5
 exact ⟨fun i hi => plain_of (List.all_eq_true.1 h5.1.2 i hi), plainT_of h5.2⟩
end Go.Proofs.YtojhakjkfkmklaaGreatDoor
