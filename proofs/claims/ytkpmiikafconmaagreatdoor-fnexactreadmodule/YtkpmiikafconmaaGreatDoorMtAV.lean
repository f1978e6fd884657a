import Derived.Test.YtkpmiikafconmaaGreatDoorFmE3V
import Derived.Test.YtkpmiikafconmaaGreatDoorOwAV
import Derived.Test.YtkpmiikafconmaaGreatDoorSzV
import Derived.Deep.AppendLies
import Derived.Test.YtkpmiikafconmaaGreatDoorOps2V
import Derived.Deep.RegionHeld2
namespace Go.Proofs.YtkpmiikafconmaaGreatDoor
open Go.RowKit
set_option linter.unusedVariables false
abbrev Ln := List UInt8 × List Int
def lnT (x : Ln) : List UInt8 := x.1 ++ numsL x.2 ++ [10]
def termNs (t : TermD) : List Int := if t.kind = 1 then [t.a] else if t.kind = 2 then [t.x] else if t.kind = 3 then [t.a, t.x, t.y] else []
def tmWL : List (List UInt8) := [[], [114, 101, 116], [106, 117, 109, 112], [98, 114, 97, 110, 99, 104], [116, 114, 97, 112]]
def tmW (k : Nat) : ByteArray := bs (tmWL.getD k [])
def phiL (p : PhiD) : Ln := ([112, 104, 105], p.w :: p.ins)
def insL (i : InstD) : Ln := (opWL.getD i.op.toNat [], instN i)
def trmL (t : TermD) : Ln := (tmWL.getD t.kind.toNat [], termNs t)
def blkL (b : BlockD) : List Ln := ([98, 108, 111, 99, 107], []) :: (b.phis.map phiL ++ b.insts.map insL ++ [trmL b.term])
def funL (f : FuncD) : List Ln := ([102, 117, 110, 99], f.ret :: f.params) :: f.blocks.flatMap blkL
def modL (l : List FuncD) : List Ln := l.flatMap funL
def xPhi (p : PhiD) : List UInt8 := lnT (phiL p)
def xIns (i : InstD) : List UInt8 := lnT (insL i)
def xTrm (t : TermD) : List UInt8 := lnT (trmL t)
def xBlk (b : BlockD) : List UInt8 := [98, 108, 111, 99, 107, 10] ++ b.phis.flatMap xPhi ++ b.insts.flatMap xIns ++ xTrm b.term
def xHead (f : FuncD) : List UInt8 := lnT ([102, 117, 110, 99], f.ret :: f.params)
def xFun (f : FuncD) : List UInt8 := xHead f ++ f.blocks.flatMap xBlk
def xMod (l : List FuncD) : List UInt8 := l.flatMap xFun
theorem blk_lines (b : BlockD) : (blkL b).flatMap lnT = xBlk b := by
 unfold blkL xBlk
 rw [List.flatMap_cons, List.flatMap_append, List.flatMap_append, List.flatMap_map, List.flatMap_map]
 show lnT ([98, 108, 111, 99, 107], []) ++ (b.phis.flatMap xPhi ++ b.insts.flatMap xIns ++ [trmL b.term].flatMap lnT) = _
 rw [List.flatMap_cons, List.flatMap_nil, List.append_nil]
 show [98, 108, 111, 99, 107, 10] ++ (b.phis.flatMap xPhi ++ b.insts.flatMap xIns ++ xTrm b.term) = _
 simp only [List.append_assoc]
theorem flat_flat {α : Type} (g : α → List Ln) (h : α → List UInt8) (e : ∀ x, (g x).flatMap lnT = h x) : ∀ l : List α, (l.flatMap g).flatMap lnT = l.flatMap h
 | [] => rfl
 | x :: l => by rw [List.flatMap_cons, List.flatMap_append, e, flat_flat g h e l, List.flatMap_cons]
theorem fun_lines (f : FuncD) : (funL f).flatMap lnT = xFun f := by
 unfold funL xFun xHead
 rw [List.flatMap_cons, flat_flat blkL xBlk blk_lines]
theorem mod_lines (l : List FuncD) : (modL l).flatMap lnT = xMod l := flat_flat funL xFun fun_lines l
theorem take_snocX {α : Type} {l : List α} {z : α} {k : Nat} (h : k < l.length) : l.take (k + 1) = l.take k ++ [l.getD k z] := by
 rw [List.take_succ_eq_append_getElem h]; simp [List.getD, h]
theorem flat_snocX {α β : Type} {l : List α} {z : α} {k : Nat} (g : α → List β) (h : k < l.length) : (l.take (k + 1)).flatMap g = (l.take k).flatMap g ++ g (l.getD k z) := by
 rw [take_snocX (z := z) h, List.flatMap_append]; simp
theorem flat_leX {α β : Type} (l : List α) (g : α → List β) (k : Nat) : ((l.take k).flatMap g).length ≤ (l.flatMap g).length := by
 have := List.take_append_drop k l
 rw [← this, List.flatMap_append, List.length_append, this]
 omega
theorem flat_allX {α β : Type} (l : List α) (g : α → List β) {k : Nat} (h : ¬ k < l.length) : (l.take k).flatMap g = l.flatMap g := by
 rw [List.take_of_length_le (by omega)]
theorem flat_boundX {α β : Type} (g : α → List β) (n : Nat) : ∀ l : List α, (∀ x ∈ l, (g x).length ≤ n) → (l.flatMap g).length ≤ n * l.length
 | [], _ => by simp
 | x :: l, h => by
  have h1 := h x (by simp)
  have h2 := flat_boundX g n l (fun y hy => h y (by simp [hy]))
  rw [List.flatMap_cons, List.length_append, List.length_cons]
  rw [Nat.mul_add]; omega
structure LnOk (x : Ln) : Prop where
 w : x.1.length ≤ 6
 n : x.2.length ≤ 20
 s : SmN x.2
theorem LnOk.len {x : Ln} (h : LnOk x) : (lnT x).length ≤ 230 := by
 have := nums_len x.2 h.s
 have := h.w
 have := h.n
 unfold lnT
 simp only [List.length_append, List.length_cons, List.length_nil]
 omega
theorem sm_cons {n : Int} {l : List Int} (h : ∃ k : Nat, n = k ∧ k ≤ 4294967295) (hl : SmN l) : SmN (n :: l) := by
 intro x hx
 rcases List.mem_cons.1 hx with rfl | hx
 ·exact h
 ·exact hl x hx
theorem sm_nil : SmN [] := fun x hx => by cases hx
theorem sm_width {x : Int} (h : widthB x = true) : ∃ k : Nat, x = k ∧ k ≤ 4294967295 := by
 obtain ⟨n, e, k⟩ := width_small h
 exact ⟨n, e, by omega⟩
theorem sm_below {x c : Int} (hc : c ≤ 60) (h : belowB x c = true) : ∃ k : Nat, x = k ∧ k ≤ 4294967295 := by
 simp [belowB] at h
 exact ⟨x.toNat, by omega, by omega⟩
theorem phi_ok {p : PhiD} {ids : Int} (hc : ids ≤ 60) (h : phiB ids p = true) : LnOk (phiL p) := by
 simp only [phiB, Bool.and_eq_true, decide_eq_true_eq] at h
 obtain ⟨⟨h1, h2⟩, h3⟩ := h
 exact ⟨by show 3 ≤ 6; omega, by simp [phiL]; omega, sm_cons (sm_width h1) fun x hx => sm_below hc (List.all_eq_true.1 h3 x hx)⟩
theorem inst_wide {d : InstD} {ids funcs : Int} (hc : ids ≤ 60) (hf : funcs ≤ 3) (h : instB d ids funcs = true) : instB d 60 3 = true := by
 simp only [instB, Bool.and_eq_true] at h ⊢
 obtain ⟨⟨⟨hw, hi⟩, hg⟩, ho⟩ := h
 refine ⟨⟨⟨hw, ?_⟩, hg⟩, ?_⟩
 ·unfold iB at hi ⊢
  split
  ·rename_i h1; rw [if_pos h1] at hi; exact hi
  ·rename_i h1; rw [if_neg h1] at hi
   split
   ·rename_i h2; rw [if_pos h2] at hi
    simp [belowB] at hi ⊢; omega
   ·rename_i h2; rw [if_neg h2] at hi; exact hi
 ·refine List.all_eq_true.2 fun x hx => ?_
  have := List.all_eq_true.1 ho x hx
  simp [belowB] at this ⊢; omega
theorem ins_ok {d : InstD} {ids funcs : Int} (hc : ids ≤ 60) (hf : funcs ≤ 3) (h : instB d ids funcs = true) : LnOk (insL d) := by
 have hF := instB_inF (inst_wide hc hf h)
 exact ⟨opWL_len _, by have := instN_len hF; show (instN d).length ≤ 20; omega, instN_sm hF⟩
theorem tmWL_len (k : Nat) : (tmWL.getD k []).length ≤ 6 := by
 rcases Nat.lt_or_ge k 5 with h | h
 ·have : ∀ k : Fin 5, (tmWL.getD k.1 []).length ≤ 6 := by decide
  exact this ⟨k, h⟩
 ·have : tmWL.getD k [] = [] := by simp [List.getD, List.getElem?_eq_none (show tmWL.length ≤ k from h)]
  rw [this]; simp
structure TmOk (t : TermD) : Prop where
 k : t.kind = 1 ∨ t.kind = 2 ∨ t.kind = 3 ∨ t.kind = 4
 a : ∃ k : Nat, t.a = k ∧ k ≤ 4294967295
 x : ∃ k : Nat, t.x = k ∧ k ≤ 4294967295
 y : ∃ k : Nat, t.y = k ∧ k ≤ 4294967295
theorem term_ok {t : TermD} {ids blocks : Int} (hc : ids ≤ 60) (hb : blocks ≤ 10) (h : termB t ids blocks = true) : TmOk t := by
 have z0 : ∃ k : Nat, (0 : Int) = k ∧ k ≤ 4294967295 := ⟨0, rfl, by omega⟩
 have hb' : blocks ≤ 60 := by omega
 unfold termB at h
 split at h
 ·rename_i h1
  simp only [Bool.and_eq_true, beq_iff_eq] at h
  obtain ⟨⟨h2, h3⟩, h4⟩ := h
  exact ⟨.inl h1, sm_below hc h2, by rw [h3]; exact z0, by rw [h4]; exact z0⟩
 ·split at h
  ·rename_i h1
   simp only [Bool.and_eq_true, beq_iff_eq] at h
   obtain ⟨⟨h2, h3⟩, h4⟩ := h
   exact ⟨.inr (.inl h1), by rw [h3]; exact z0, sm_below hb' h2, by rw [h4]; exact z0⟩
  ·split at h
   ·rename_i h1
    simp only [Bool.and_eq_true] at h
    obtain ⟨⟨⟨h2, h3⟩, h4⟩, h5⟩ := h
    exact ⟨.inr (.inr (.inl h1)), sm_below hc h2, sm_below hb' h3, sm_below hb' h4⟩
   ·simp only [Bool.and_eq_true, beq_iff_eq] at h
    obtain ⟨⟨⟨h2, h3⟩, h4⟩, h5⟩ := h
    exact ⟨.inr (.inr (.inr h2)), by rw [h3]; exact z0, by rw [h4]; exact z0, by rw [h5]; exact z0⟩
theorem TmOk.nums {t : TermD} (h : TmOk t) : SmN (termNs t) := by
 unfold termNs
 split
 ·exact sm_cons h.a sm_nil
 ·split
  ·exact sm_cons h.x sm_nil
  ·split
   ·exact sm_cons h.a (sm_cons h.x (sm_cons h.y sm_nil))
   ·exact sm_nil
theorem termNs_len (t : TermD) : (termNs t).length ≤ 3 := by
 unfold termNs
 split
 ·simp
 ·split
  ·simp
  ·split <;> simp
theorem trm_ok {t : TermD} (h : TmOk t) : LnOk (trmL t) := ⟨tmWL_len _, by have := termNs_len t; show (termNs t).length ≤ 20; omega, h.nums⟩
structure BkOk (b : BlockD) : Prop where
 p : ∀ p ∈ b.phis, LnOk (phiL p)
 i : ∀ i ∈ b.insts, instB i 60 3 = true
 t : TmOk b.term
theorem BkOk.ins {b : BlockD} (h : BkOk b) : ∀ i ∈ b.insts, LnOk (insL i) := fun i hi => ins_ok (Int.le_refl 60) (Int.le_refl 3) (h.i i hi)
theorem block_ok {b : BlockD} {ids blocks funcs : Int} (hc : ids ≤ 60) (hb : blocks ≤ 10) (hf : funcs ≤ 3) (h : blockB ids blocks funcs b = true) : BkOk b := by
 simp only [blockB, Bool.and_eq_true] at h
 exact ⟨fun p hp => phi_ok hc (List.all_eq_true.1 h.1.1 p hp), fun i hi => inst_wide hc hf (List.all_eq_true.1 h.1.2 i hi), term_ok hc hb h.2⟩
structure FnOk (f : FuncD) : Prop where
 h : LnOk ([102, 117, 110, 99], f.ret :: f.params)
 p4 : f.params.length ≤ 4
 b10 : f.blocks.length ≤ 10
 c60 : cntF f ≤ 60
 b : ∀ x ∈ f.blocks, BkOk x
theorem func_ok {f : FuncD} {funcs : Int} (hf : funcs ≤ 3) (h : funcB funcs f = true) : FnOk f := by
 simp only [funcB, Bool.and_eq_true, decide_eq_true_eq] at h
 obtain ⟨⟨⟨⟨⟨⟨h1, h2⟩, h3⟩, h4⟩, h5⟩, h6⟩, h7⟩ := h
 refine ⟨⟨by show 4 ≤ 6; omega, by show (f.ret :: f.params).length ≤ 20; rw [List.length_cons]; omega, sm_cons (sm_width h3) fun x hx => sm_width (List.all_eq_true.1 h2 x hx)⟩, h1, h5, h6, fun x hx => ?_⟩
 exact block_ok (by omega) (by omega) hf (List.all_eq_true.1 h7 x hx)
theorem mod_ok {l : List FuncD} (h : modB l = true) : l.length ≤ 3 ∧ ∀ f ∈ l, FnOk f := by
 simp only [modB, Bool.and_eq_true, decide_eq_true_eq] at h
 exact ⟨h.1.2, fun f hf => func_ok (by omega) (List.all_eq_true.1 h.2 f hf)⟩
theorem xBlk_len {b : BlockD} (h : BkOk b) : (xBlk b).length ≤ 236 + 230 * cntB b := by
 have h1 := flat_boundX xPhi 230 b.phis (fun x hx => (h.p x hx).len)
 have h2 := flat_boundX xIns 230 b.insts (fun x hx => (h.ins x hx).len)
 have h3 := (trm_ok h.t).len
 have h4 : (xTrm b.term).length ≤ 230 := h3
 unfold xBlk cntB
 simp only [List.length_append, List.length_cons, List.length_nil]
 omega
theorem xBlks_len : ∀ l : List BlockD, (∀ x ∈ l, BkOk x) → (l.flatMap xBlk).length ≤ 236 * l.length + 230 * cntL l
 | [], _ => by simp
 | b :: l, h => by
  have h1 := xBlk_len (h b (by simp))
  have h2 := xBlks_len l (fun x hx => h x (by simp [hx]))
  have h3 : cntL (b :: l) = cntB b + cntL l := by simp [cntL]
  rw [List.flatMap_cons, List.length_append, List.length_cons, h3, Nat.mul_add, Nat.mul_add]
  omega
theorem xFun_len {f : FuncD} (h : FnOk f) : (xFun f).length ≤ 17000 := by
 have h5 := xBlks_len f.blocks h.b
 have h3 := h.c60
 have h2 := h.b10
 have h6 : cntL f.blocks ≤ 60 := by unfold cntF at h3; omega
 have h7 : (xHead f).length ≤ 230 := h.h.len
 unfold xFun
 rw [List.length_append]
 omega
theorem xMod_len {l : List FuncD} (h : modB l = true) : (xMod l).length ≤ 51000 := by
 obtain ⟨h1, h2⟩ := mod_ok h
 have := flat_boundX xFun 17000 l (fun f hf => xFun_len (h2 f hf))
 unfold xMod
 omega
end Go.Proofs.YtkpmiikafconmaaGreatDoor
namespace Go.Proofs.YtkpmiikafconmaaGreatDoor
open Go.RowKit
set_option linter.unusedVariables false
structure NumsAt (w : World) (base : Nat) (own : Option Nat) (a : Option Addr) (l : List Int) : Prop where
 ints : IntsAt w base a l
 off : l ≠ [] → ∀ ad, a = some ad → some ad.block ≠ own
theorem NumsAt.moved {w w' : World} {base : Nat} {own own' : Option Nat} {a : Option Addr} {l : List Int} (h : NumsAt w base own a l) (hz : w.heap.size ≤ w'.heap.size) (hb : ∀ k, k < w.heap.size → base ≤ k → some k ≠ own → w'.heap[k]? = w.heap[k]?) (hs : own' = own ∨ ∃ g, own' = some g ∧ w.heap.size ≤ g) : NumsAt w' base own' a l := by
 by_cases hl : l = []
 ·exact ⟨⟨h.ints.1, .inl hl⟩, fun k => absurd hl k⟩
 ·rcases h.ints.2 with he | ⟨b, off, ha, hlo, hlt, hc⟩
  ·exact absurd he hl
  ·have ho := h.off hl _ ha
   refine ⟨⟨h.ints.1, .inr ⟨b, off, ha, hlo, by omega, fun i hi => (cell_block (hb b hlt hlo ho)).trans (hc i hi)⟩⟩, fun _ ad e => ?_⟩
   rw [ha] at e
   cases e
   rcases hs with rfl | ⟨g, rfl, hg⟩
   ·exact ho
   ·intro e; have e3 : b = g := Option.some.inj e; omega
theorem At.below' {w w' : World} {g n : Nat} {cs : Array Value} {T : TypeId} (h : At w g cs T) (k : Below n w w') (hg : g < n) : At w' g cs T := (k.block g hg).trans h
def ln0 : Ln := ([], [])
def LnCell (w : World) (base : Nat) (own : Option Nat) (xs : List Value) (j : Nat) (x : Ln) : Prop :=
 ∃ a c, xs[j * 2]? = some (.string (bs x.1)) ∧ xs[j * 2 + 1]? = some (.slice a x.2.length c) ∧ NumsAt w base own a x.2
structure Lns (w : World) (base : Nat) (v : Value) (l : List Ln) (xs : List Value) : Prop where
 row : w.ownsRow base 43 2 v l.length xs
 cells : ∀ j, j < l.length → LnCell w base v.ownBlock xs j (l.getD j ln0)
theorem Lns.len {w : World} {base : Nat} {v : Value} {l : List Ln} {xs : List Value} (h : Lns w base v l xs) : xs.length = l.length * 2 := h.row.1
theorem Lns.nil (w : World) (base : Nat) : Lns w base (.slice none 0 0) [] [] := ⟨World.ownsRow_nil _ _ _ _, fun j hj => by simp at hj⟩
theorem Lns.keep {w w' : World} {base : Nat} {v : Value} {l : List Ln} {xs : List Value} (h : Lns w base v l xs) (k : Below w.heap.size w w') : Lns w' base v l xs := by
 refine ⟨h.row.kept (row := none) ⟨k.os, k.tape, k.output, k.size, fun i hi _ => k.block i hi⟩ (by cases e : v.ownBlock <;> simp), fun j hj => ?_⟩
 obtain ⟨a, c, h1, h2, h3⟩ := h.cells j hj
 exact ⟨a, c, h1, h2, h3.moved k.size (fun i hi _ _ => k.block i hi) (.inl rfl)⟩
theorem Lns.push {w w' : World} {base g cap : Nat} {v : Value} {l news : List Ln} {xs ns : List Value} (h : Lns w base v l xs) (hn : ns.length = news.length * 2) (hc : ∀ j, j < news.length → LnCell w base v.ownBlock ns j (news.getD j ln0))
  (ho : w'.ownsRow base 43 2 (.slice (some ⟨g, 0, none⟩) (l.length + news.length) cap) (l.length + news.length) (xs ++ ns)) (hg : w.grownBy w' v.ownBlock) (hs : v.ownBlock = some g ∨ g = w.heap.size) :
  Lns w' base (.slice (some ⟨g, 0, none⟩) (l.length + news.length) cap) (l ++ news) (xs ++ ns) := by
 have hxl := h.len
 have hs' : (Value.slice (some ⟨g, 0, none⟩) (l.length + news.length) cap).ownBlock = v.ownBlock ∨ ∃ k, (Value.slice (some ⟨g, 0, none⟩) (l.length + news.length) cap).ownBlock = some k ∧ w.heap.size ≤ k := by
  rcases hs with hs | hs
  ·exact .inl hs.symm
  ·exact .inr ⟨g, rfl, by omega⟩
 have mv : ∀ {a : Option Addr} {r : List Int}, NumsAt w base v.ownBlock a r → NumsAt w' base (Value.slice (some ⟨g, 0, none⟩) (l.length + news.length) cap).ownBlock a r := fun k => k.moved hg.size (fun i hi _ hne => hg.block i hi hne) hs'
 refine ⟨by rw [List.length_append]; exact ho, fun j hj => ?_⟩
 rw [List.length_append] at hj
 by_cases hjl : j < l.length
 ·obtain ⟨a, c, h1, h2, h3⟩ := h.cells j hjl
  have e : (l ++ news).getD j ln0 = l.getD j ln0 := by simp [List.getD, List.getElem?_append_left hjl]
  rw [e]
  exact ⟨a, c, by rw [List.getElem?_append_left (by omega)]; exact h1, by rw [List.getElem?_append_left (by omega)]; exact h2, mv h3⟩
 ·obtain ⟨a, c, h1, h2, h3⟩ := hc (j - l.length) (by omega)
  have e : (l ++ news).getD j ln0 = news.getD (j - l.length) ln0 := by simp [List.getD, List.getElem?_append_right (Nat.le_of_not_lt hjl)]
  rw [e]
  refine ⟨a, c, ?_, ?_, mv h3⟩
  ·rw [List.getElem?_append_right (by omega), hxl, show j * 2 - l.length * 2 = (j - l.length) * 2 by omega]; exact h1
  ·rw [List.getElem?_append_right (by omega), hxl, show j * 2 + 1 - l.length * 2 = (j - l.length) * 2 + 1 by omega]; exact h2
theorem Lns.one {W : World} {x : Ln} {a : Option Addr} {c s base : Nat} (hs : W.heap.size = s) (hb : base ≤ s) (hk : IntsAt W base a x.2) :
  Lns (W.alloc (.cells #[.string (bs x.1), .slice a x.2.length c] 43)) base (.slice (some ⟨s, 0, none⟩) 1 1) [x] [.string (bs x.1), .slice a x.2.length c] := by
 subst hs
 refine ⟨World.ownsRow_lit W #[.string (bs x.1), .slice a x.2.length c] 1 hb (by decide) (by simp), fun j hj => ?_⟩
 have hj0 : j = 0 := by simp at hj; omega
 subst hj0
 refine ⟨a, c, rfl, rfl, ⟨hk.keep (agree_alloc _ _ _), fun hne ad e => ?_⟩⟩
 show some ad.block ≠ some W.heap.size
 rcases hk.2 with h | ⟨b, off, ha, _, hlt, _⟩
 ·exact absurd h hne
 ·rw [ha] at e; cases e; intro e2; have e3 : b = W.heap.size := Option.some.inj e2; omega
theorem Lns.low {w : World} {base base' : Nat} {v : Value} {l : List Ln} {xs : List Value} (h : Lns w base v l xs) (hb : base' ≤ base) : Lns w base' v l xs := by
 refine ⟨⟨h.row.1, ?_⟩, fun j hj => ?_⟩
 ·rcases h.row.2 with k | ⟨g, cap, cur, h1, h2, r⟩
  ·exact .inl k
  ·exact .inr ⟨g, cap, cur, h1, by omega, r⟩
 ·obtain ⟨a, c, h1, h2, h3⟩ := h.cells j hj
  exact ⟨a, c, h1, h2, ⟨h3.ints.low hb, h3.off⟩⟩
end Go.Proofs.YtkpmiikafconmaaGreatDoor
namespace Go.Proofs.YtkpmiikafconmaaGreatDoor
open Go.RowKit
set_option linter.unusedVariables false
end Go.Proofs.YtkpmiikafconmaaGreatDoor
namespace Go.Proofs.YtkpmiikafconmaaGreatDoor
open Go.RowKit
set_option linter.unusedVariables false
set_option linter.unusedSimpArgs false
def TmsAt (w : World) : Prop := 0 < w.heap.size ∧ ∀ j, j < 5 → w.cell? ⟨0, j, none⟩ = some (.string (tmW j))
theorem TmsAt.keep {w w' : World} (h : TmsAt w) (k : Below w.heap.size w w') : TmsAt w' :=
 ⟨Nat.lt_of_lt_of_le h.1 k.size, fun j hj => (cell_block (k.block _ h.1)).trans (h.2 j hj)⟩
end Go.Proofs.YtkpmiikafconmaaGreatDoor
