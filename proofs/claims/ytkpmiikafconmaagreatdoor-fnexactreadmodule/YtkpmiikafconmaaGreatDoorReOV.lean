import Derived.Test.YtkpmiikafconmaaGreatDoorReNV
import Derived.Deep.AppendLies
import Derived.Deep.LoopGhost
import Derived.Deep.CutBlock
import Derived.Deep.DeepCutAuto
import Derived.Deep.Upon
import Derived.Deep.AppendSrc
namespace Go.Proofs.YtkpmiikafconmaaGreatDoor
open Go.RowKit
set_option linter.unusedVariables false
set_option linter.unusedSimpArgs false
theorem wd_yes {word : ByteArray} {u : List UInt8} (h : word = bs u) : (word.toList == u) = true := by rw [h, bs_listT]; exact beq_self_eq_true u
theorem wd_no {word : ByteArray} {u : List UInt8} (h : ¬ word = bs u) : (word.toList == u) = false := by
 refine beq_eq_false_iff_ne.2 fun e => h ?_
 rw [← e]
 exact ba_ext (by simp [bs, ByteArray.toList_eq])
theorem list_runP {P : Program} {ops : Array Oper} {rest : List Oper} {o : Oper} {a : Act} {w w1 : World} {Q : Exit → Act → World → Prop} {v' : Value} (hgd : o.guard = none) (s x : Operand) (t : TypeId)
  (ho : o.op = .call { callee := .builtin .append, args := #[s, x], argTypes := #[t, t] }) {v1 v2 : Value} (h1 : a.eval s = v1) (h2 : a.eval x = v2) (hrun : (Builtin.append_ #[t, t] o.type #[v1, v2]).run P w = .ok v' w1) (h : wpList P ops Q rest (a.put o.dst v') w1) : wpList P ops Q (o :: rest) a w :=
 wpList_plain hgd fun K hK => by
  unfold Oper.wp execOp
  simp only [ho, resolve, invoke, builtin, Sem.run_bind, Sem.run_pure, Result.andThen_ok, List.map_toArray, List.map_cons, List.map_nil, h1, h2, hrun]
  exact hK _ _ h
theorem RowS.cellAt {α : Type} {T : TypeId} {s : Nat} {C : α → List Value} {w : World} {base : Nat} {u : Option Addr} {m c : Nat} {es : List α} (hC : ∀ e, (C e).length = s) (h : RowS T s C w base (.slice u m c) es) {i : Nat} {e : α} (he : es[i]? = some e) : ∃ g cur, u = some ⟨g, 0, none⟩ ∧ base ≤ g ∧ w.heap[g]? = some (.cells cur T (0, 0)) ∧ ∀ j, j < s → w.cell? ⟨g, i * s + j, none⟩ = (C e)[j]? := by
 have hil := (List.getElem?_eq_some_iff.1 he).1
 rcases h.2 with ⟨_, hn⟩ | ⟨g, cap, cur, hv, hb, hg, hnc, _, hcs, htk⟩
 ·omega
 ·cases hv
  refine ⟨g, cur, rfl, hb, hg, fun j hj => ?_⟩
  rw [cell_of_heap hg, ← flat_at hC es i j e he hj, ← htk, List.getElem?_take, if_pos (by
   have := Nat.mul_le_mul_right s (show i + 1 ≤ es.length from hil)
   rw [Nat.succ_mul] at this
   omega)]
  simp
theorem infoBkM : (Tryz.prog.info? 74).map (fun i => (i.zero, i.size, i.bytes)) = some (some (.agg #[.slice none 0 0, .slice none 0 0, .int .i64 0, .int .i64 0, .int .i64 0, .int .i64 0]), 6, 80) := by kernel_rfl
theorem bkC_one (b : BkE) : ∀ u, u ∈ bkC b → u.oneCell' = true := fun u hu => by
 simp only [bkC, List.mem_cons, List.not_mem_nil, or_false] at hu
 rcases hu with rfl | rfl | rfl | rfl | rfl | rfl <;> rfl
theorem flat_len {α : Type} {C : α → List Value} {s : Nat} (hC : ∀ e, (C e).length = s) : ∀ l : List α, (l.flatMap C).length = l.length * s
 | [] => by simp
 | x :: l => by rw [List.flatMap_cons, List.length_append, flat_len hC l, hC, List.length_cons, Nat.succ_mul]; omega
theorem copyBks {w : World} {N lo hi : Nat} {O : World → Nat → Nat → BkE → Prop} {u : Option Addr} {c : Nat} {es : List BkE} (hN : At w N #[] 74) (hs : SL 74 6 bkC O w lo hi u es) (hl : es.length ≤ 20001) : ∃ u' c' w', (Builtin.append_ #[53, 53] 53 #[.slice (some ⟨N, 0, none⟩) 0 0, .slice u es.length c]).run Tryz.prog w = .ok (.slice (some ⟨u', 0, none⟩) es.length c') w' ∧ RowS 74 6 bkC w' N (.slice (some ⟨u', 0, none⟩) es.length c') es ∧ w.grownBy w' (some N) ∧ u' < w'.heap.size := by
 obtain ⟨iB, hiB, zBk, sB', bB⟩ := info_three infoBkM
 have h0 : RowS 74 6 bkC w N (.slice (some ⟨N, 0, none⟩) 0 0) [] := ⟨rfl, .inr ⟨N, 0, #[], rfl, Nat.le_refl _, hN, Nat.le_refl _, Nat.zero_le _, rfl, rfl⟩⟩
 have hNl := hN.lt
 cases es with
 | nil =>
  refine ⟨N, 0, w, run_append_nothing w _ _ _ _ iB Tryz.underlying53 hiB _ 0 0 (Nat.le_refl _) _ ?_, h0, ⟨rfl, rfl, rfl, Nat.le_refl _, fun _ _ _ => rfl⟩, hNl⟩
  cases u with
  | none => exact Src.ofNil w Tryz.underlying53 c
  | some a => exact Src.ofSlice w Tryz.underlying53 a 0 c [] (by simp) (fun j u h => by simp at h) (fun u h => by cases h)
 | cons b es =>
  rcases hs.2.1 with e | ⟨g, cur, rfl, k1, k2, k3, k4⟩
  ·cases e
  ·obtain ⟨g6, cap6, wa, hrun, hown6, hgr6, _, hlt6⟩ := run_append_lies (P := Tryz.prog) w 53 53 N 74 iB (.agg #[.slice none 0 0, .slice none 0 0, .int .i64 0, .int .i64 0, .int .i64 0, .int .i64 0]) 6 80 Tryz.underlying53 hiB zBk sB' bB rfl (by decide) (.slice (some ⟨N, 0, none⟩) 0 0) 0 [] h0 ⟨g, 0, none⟩ (b :: es).length c ((b :: es).flatMap bkC) (flat_len (C := bkC) (s := 6) (fun _ => rfl) _) (fun j z hz => by
    have hjl := (List.getElem?_eq_some_iff.1 hz).1
    rw [flat_len (C := bkC) (s := 6) (fun _ => rfl)] at hjl
    have hi : j / 6 < (b :: es).length := by omega
    have he : (b :: es)[j / 6]? = some ((b :: es)[j / 6]'hi) := List.getElem?_eq_getElem hi
    have h1 := flat_at (C := bkC) (s := 6) (fun _ => rfl) (b :: es) (j / 6) (j % 6) _ he (Nat.mod_lt _ (by decide))
    have h2 := k4 _ _ he (j % 6) (Nat.mod_lt _ (by decide))
    rw [show j / 6 * 6 + j % 6 = j by omega] at h1 h2
    have hadd : (⟨g, 0, none⟩ : Addr).add j = ⟨g, j, none⟩ := by unfold Addr.add; split <;> simp_all
    rw [hadd, cell_of_heap k3, h2, ← h1, hz]) (fun z hz => by
    obtain ⟨e, _, h1⟩ := List.mem_flatMap.1 hz
    exact bkC_one e z h1) (by simp) (by unfold maxLen; omega) (by omega) (Nat.le_of_lt hNl) _ rfl
   rw [Nat.zero_add] at hrun hown6
   rw [List.nil_append] at hown6
   exact ⟨g6, cap6, wa, hrun, hown6, hgr6, hlt6⟩
theorem ClS.keep {w w2 : World} {R n : Nat} {fs : List FnE} {v : Value} (h : ClS w R n fs v) (k : Below w.heap.size w w2) : ClS w2 R n fs v :=
 ⟨h.box.below k, h.row.stay (Stay.below (Stay.refl [] w) k) (fun _ _ hm => by cases hm), fun f hf => ((h.fsv f hf).stay (Stay.below (Stay.refl [] w) k) (fun _ hb => by cases hb)).wide (Nat.le_refl _) k.size, h.len, h.bl⟩
def inR (R : Nat) (v : Value) : List Nat := R :: v.ownBlock.toList
theorem inR_lv {w : World} {R : Nat} {v : Value} {cs : Array Value} {es : List FnE} (hb : At w R cs 62) (hr : RowS 55 3 fnC w (R + 1) v es) : ∀ b, b ∈ inR R v → Lv 4 w b := fun b hm => by
 rcases List.mem_cons.1 hm with rfl | hm
 ·exact Lv.of hb (by decide)
 ·obtain ⟨_, cur, hc⟩ := hr.ge (by simpa [Option.mem_toList] using hm)
  exact Lv.of hc (by decide)
def LineT (R n : Nat) (s : ByteArray) (p : PSt) (w : World) (e : Ending) (w' : World) : Prop :=
 ((∃ q, e = .returned (.bool true) ∧ StH w' R (n + 1) q ∧ ∀ x q', LineIs s x → LnOk x → Step p x q' → q' = q) ∨ (e = .returned (.bool false) ∧ ∀ x q', LineIs s x → LnOk x → ¬ Step p x q')) ∧ Below R w w'
set_option maxHeartbeats 1000000 in
theorem lastS (R : Nat) (u : Option Addr) (m c : Nat) (b : Bool) (w : World) (h : At w R #[.slice u m c, .bool b] 62) (hm : m ≤ 1048576) :
  Calls Tryz.prog 61 #[.pointer (some ⟨R, 0, none⟩)] w fun e w' => e = .returned (.int .i64 ((m : Int) - 1)) ∧ w' = w := by
 have c0 : w.cell? ⟨R, 0, none⟩ = some (.slice u m c) := h.cell 0
 clear h
 go_enter Tryz.func61, Tryz.ntmps61
 go_wp2_with fail
 go_ret
 exact ⟨rfl, rfl⟩
set_option maxHeartbeats 8000000 in
set_option maxRecDepth 100000 in
theorem lineC (R n : Nat) (fs : List FnE) (v : Value) (s : ByteArray) (w : World) (h : ClS w R n fs v) (hn : n ≤ 20000) (hs : s.size ≤ 1048576) :
  Calls Tryz.prog 33 #[.pointer (some ⟨R, 0, none⟩), .string s] w fun e w' => LineT R n s (stC fs) w e w' := by
 obtain ⟨iF, hiF, zF, sF', bF⟩ := info_three infoFnL
 obtain ⟨vu, vc, rfl⟩ := h.row.slice
 have hfl : fs.length ≤ n := h.len
 have hR : R < w.heap.size := h.box.lt
 have HS : Hid (ClS w R n fs (.slice vu fs.length vc)) := h
 have SP := splitL s w hs
 clear h hs
 go_enter Tryz.func33, Tryz.ntmps33
 go_wp2_with fail
 refine SP.mono ?_
 rintro e w1 ⟨⟨word, l, lu, lc, ok, rfl, hrow, hll, _, hT⟩, b1⟩
 have HT : Hid (LnTold s word l ok) := hT
 have HB1 : Hid (Below w.heap.size w w1) := b1
 have HA1 : Hid (At w1 R #[.slice vu fs.length vc, .bool false] 62) := HS.out.box.below b1
 have z1 : w.heap.size ≤ w1.heap.size := b1.size
 obtain ⟨HI0, hlc, hcm⟩ := IntsB2.of hrow
 have HI : Hid (IntsB2 w1 w.heap.size w1.heap.size lu l) := HI0
 clear SP hrow hT b1 HI0
 go_wp2_with fail
 refine (lastS R vu fs.length vc false w1 HA1.out (by omega)).mono ?_
 rintro e w2 ⟨rfl, h9⟩
 have h8 := h9.symm
 clear h9
 subst h8
 have c1 : w1.cell? ⟨R, 1, none⟩ = some (.bool false) := HA1.out.cell 1
 have HBR : Hid (Below R w w1) := HB1.out.mono (by omega)
 cases hok : ok
 ·subst hok
  have HNo : Hid (∀ x q', LineIs s x → LnOk x → ¬ Step (stC fs) x q') := fun x q' hx hk _ => absurd (HT.out x hx hk).1 (by simp)
  go_wp2_with fail
  go_ret
  exact ⟨.inr ⟨rfl, HNo.out⟩, HBR.out⟩
 subst hok
 by_cases hf : word = bs wFun
 ·have q1 : (word.toList == [102, 117, 110, 99]) = true := wd_yes (u := wFun) hf
  have HF : Hid (word = bs wFun) := hf
  clear hf
  by_cases hl0 : l = []
  ·have HNo : Hid (∀ x q', LineIs s x → LnOk x → ¬ Step (stC fs) x q') := fun x q' hx hk hst => by
    rcases st_cl hst with ⟨_, r, ps, h2, _⟩ | ⟨h1, _⟩
    ·rw [← (HT.out x hx hk).2.2, hl0] at h2
     cases h2
    ·have h3 := (HT.out x hx hk).2.1
     rw [HF.out, h1] at h3
     exact absurd (bs_inj h3) (by decide)
   have q2 : ((l.length : Int) == 0) = true := by rw [hl0]; rfl
   clear hl0
   go_wp2_with fail
   go_ret
   exact ⟨.inr ⟨rfl, HNo.out⟩, HBR.out⟩
  ·obtain ⟨r, ps, hlr⟩ : ∃ r ps, l = r :: ps := by
    cases l with
    | nil => exact absurd rfl hl0
    | cons r ps => exact ⟨r, ps, rfl⟩
   have HL : Hid (l = r :: ps) := hlr
   have hl1 : l.length - 1 = ps.length := by rw [hlr]; simp
   have hl2 : 0 < l.length := by rw [hlr]; simp
   have hl3 : (1 : Int) ≤ (l.length : Int) := by omega
   obtain ⟨b, lcur, rfl, hb1, hb2, _, hb3, hb4⟩ : ∃ b cur, lu = some ⟨b, 0, none⟩ ∧ w.heap.size ≤ b ∧ b < w1.heap.size ∧ w1.heap.size ≤ w1.heap.size ∧ w1.heap[b]? = some (.cells cur 2 (0, 0)) ∧ ∀ i, i < l.length → cur[i]? = some (.int .i64 (l.getD i 0)) := by
    rcases HI.out with h | h
    ·exact absurd h hl0
    ·exact h
   have cb : w1.cell? ⟨b, 0, none⟩ = some (.int .i64 r) := by rw [cell_of_heap hb3, hb4 0 (by omega), hlr]; rfl
   obtain ⟨pu, hpu⟩ : ∃ pu : Option Addr, (if lc = 1 then some (⟨b, 0, none⟩ : Addr) else some ⟨b, 1, none⟩) = pu := ⟨_, rfl⟩
   have HTl : Hid (IntA2 w1 w.heap.size pu ps) := by
    have k : IntA2 w1 w.heap.size (some ⟨b, 1, none⟩) ps := IntsB2.tail1 (x := r) (by have := HI.out; rw [hlr] at this; exact this) (by omega)
    by_cases h1 : lc = 1
    ·have e : ps = [] := List.eq_nil_of_length_eq_zero (by omega)
     rw [e]
     exact IntO.nil _ _ _ _
    ·rw [← hpu, if_neg h1]
     exact k
   have HS1 : Hid (ClS w1 R n fs (.slice vu fs.length vc)) := HS.out.keep HB1.out
   have q2 : ((l.length : Int) == 0) = false := by simp; omega
   have c0 : w1.cell? ⟨R, 0, none⟩ = some (.slice vu fs.length vc) := HA1.out.cell 0
   have HLb1 : Hid (w1.heap[b]? = some (.cells lcur 2 (0, 0))) := hb3
   clear hlr hl0 hb3 hb4 HI HS
   go_wp2_with fail
   refine startX (fun w' => w'.cell? ⟨R, 0, none⟩ = some (.slice vu fs.length vc) ∧ w'.cell? ⟨b, 0, none⟩ = some (.int .i64 r)) (fun i => decide (i = 17)) (by kernel_rfl) ?_
   refine takeX 0 (v := ?_) rfl rfl (by kernel_rfl) (fun _ _ _ h => h) (yesH (by rfl) ?_) ⟨c0, cb⟩ ?_
   rotate_left
   ·intro w9 hS9
    obtain ⟨g0, g1⟩ := hS9
    go_simp
    try with_reducible rfl
   try simp only [Act.put, sA, sB, sC]
   refine takeX 1 (v := ?_) rfl rfl (by kernel_rfl) (fun _ _ _ h => h) (yesH (by rfl) ?_) ⟨c0, cb⟩ ?_
   rotate_left
   ·intro w9 hS9
    obtain ⟨g0, g1⟩ := hS9
    go_simp
    try with_reducible rfl
   try simp only [Act.put, sA, sB, sC]
   refine takeX 2 (v := ?_) rfl rfl (by kernel_rfl) (fun _ _ _ h => h) (yesH (by rfl) ?_) ⟨c0, cb⟩ ?_
   rotate_left
   ·intro w9 hS9
    obtain ⟨g0, g1⟩ := hS9
    go_simp
    try with_reducible rfl
   try simp only [Act.put, sA, sB, sC]
   refine takeX 3 (v := ?_) rfl rfl (by kernel_rfl) (fun _ _ _ h => h) (yesH (by rfl) ?_) ⟨c0, cb⟩ ?_
   rotate_left
   ·intro w9 hS9
    obtain ⟨g0, g1⟩ := hS9
    go_simp
    try with_reducible rfl
   try simp only [Act.put, sA, sB, sC]
   refine takeX 4 (v := ?_) rfl rfl (by kernel_rfl) (fun _ _ _ h => h) (yesH (by rfl) ?_) ⟨c0, cb⟩ ?_
   rotate_left
   ·intro w9 hS9
    obtain ⟨g0, g1⟩ := hS9
    go_simp
    try with_reducible rfl
   try simp only [Act.put, sA, sB, sC]
   refine takeX 5 (v := ?_) rfl rfl (by kernel_rfl) (fun _ _ _ h => h) (yesH (by rfl) ?_) ⟨c0, cb⟩ ?_
   rotate_left
   ·intro w9 hS9
    obtain ⟨g0, g1⟩ := hS9
    go_simp
    try with_reducible rfl
   try simp only [Act.put, sA, sB, sC]
   refine takeX 6 (v := ?_) rfl rfl (by kernel_rfl) (fun _ _ _ h => h) (yesH (by rfl) ?_) ⟨c0, cb⟩ ?_
   rotate_left
   ·intro w9 hS9
    obtain ⟨g0, g1⟩ := hS9
    go_simp
    try with_reducible rfl
   try simp only [Act.put, sA, sB, sC]
   refine takeX 7 (v := ?_) rfl rfl (by kernel_rfl) (fun _ _ _ h => h) (yesH (by rfl) ?_) ⟨c0, cb⟩ ?_
   rotate_left
   ·intro w9 hS9
    obtain ⟨g0, g1⟩ := hS9
    go_simp
    try with_reducible rfl
   try simp only [Act.put, sA, sB, sC]
   refine takeX 8 (v := ?_) rfl rfl (by kernel_rfl) (fun _ _ _ h => h) (yesH (by rfl) ?_) ⟨c0, cb⟩ ?_
   rotate_left
   ·intro w9 hS9
    obtain ⟨g0, g1⟩ := hS9
    go_simp
    try with_reducible rfl
   try simp only [Act.put, sA, sB, sC]
   refine takeX 9 (v := ?_) rfl rfl (by kernel_rfl) (fun _ _ _ h => h) (yesH (by rfl) ?_) ⟨c0, cb⟩ ?_
   rotate_left
   ·intro w9 hS9
    obtain ⟨g0, g1⟩ := hS9
    go_simp
    try with_reducible rfl
   try simp only [Act.put, sA, sB, sC]
   refine takeX 10 (v := ?_) rfl rfl (by kernel_rfl) (fun _ _ _ h => h) (yesH (by rfl) ?_) ⟨c0, cb⟩ ?_
   rotate_left
   ·intro w9 hS9
    obtain ⟨g0, g1⟩ := hS9
    go_simp
    try with_reducible rfl
   try simp only [Act.put, sA, sB, sC]
   refine takeX 11 (v := ?_) rfl rfl (by kernel_rfl) (fun _ _ _ h => h) (yesH (by rfl) ?_) ⟨c0, cb⟩ ?_
   rotate_left
   ·intro w9 hS9
    obtain ⟨g0, g1⟩ := hS9
    go_simp
    try with_reducible rfl
   try simp only [Act.put, sA, sB, sC]
   have HW2 : Hid (ClS w1.drew R n fs (.slice vu fs.length vc)) := ⟨HS1.out.box, HS1.out.row, HS1.out.fsv, HS1.out.len, HS1.out.bl⟩
   have HT2 : Hid (IntA2 w1.drew w.heap.size pu ps) := HTl.out
   have HB2 : Hid (Below R w w1.drew) := HBR.out.drew
   have d0 : w1.drew.cell? ⟨R, 0, none⟩ = some (.slice vu fs.length vc) := c0
   have d1 : w1.drew.cell? ⟨b, 0, none⟩ = some (.int .i64 r) := cb
   have hbz : b < w1.drew.heap.size := hb2
   have HLb : Hid (w1.drew.heap[b]? = some (.cells lcur 2 (0, 0))) := HLb1.out
   have hz2 : w.heap.size ≤ w1.drew.heap.size := z1
   clear HLb1 HS1 HTl HBR HB1 HA1 c0 cb c1 hb2 z1
   generalize w1.drew = W2 at *
   have b6 : Below W2.heap.size W2 (W2.alloc (.cells #[.slice pu ps.length (lc - 1), .int .i64 r, .slice none 0 0] 55)) := (Below.refl _ _).alloc (Nat.le_refl _) _
   have HR6 : Hid (RowS 55 3 fnC (W2.alloc (.cells #[.slice pu ps.length (lc - 1), .int .i64 r, .slice none 0 0] 55)) (R + 1) (.slice vu fs.length vc) fs) := HW2.out.row.stay (Stay.below (Stay.refl [] _) b6) (fun _ _ hm => by cases hm)
   have c5 : (W2.alloc (.cells #[.slice pu ps.length (lc - 1), .int .i64 r, .slice none 0 0] 55)).cell? ⟨R, 0, none⟩ = some (.slice vu fs.length vc) := (b6.cell (by show R < _; omega)).trans d0
   have c6 : (W2.alloc (.cells #[.slice pu ps.length (lc - 1), .int .i64 r, .slice none 0 0] 55)).cell? ⟨b, 0, none⟩ = some (.int .i64 r) := (b6.cell (by show b < _; omega)).trans d1
   obtain ⟨g6, cap6, wa, hrun, hown6, hgr6, _, _⟩ := run_append_lies (P := Tryz.prog) (W2.alloc (.cells #[.slice pu ps.length (lc - 1), .int .i64 r, .slice none 0 0] 55)) 24 24 (R + 1) 55 iF (.agg #[.slice none 0 0, .int .i64 0, .slice none 0 0]) 3 56 Tryz.underlying24 hiF zF sF' bF rfl (by decide) (.slice vu fs.length vc) fs.length (fs.flatMap fnC) HR6.out ⟨W2.heap.size, 0, none⟩ 1 1 [.slice pu ps.length (lc - 1), .int .i64 r, .slice none 0 0] rfl (World.news_of_block (At.new W2 #[.slice pu ps.length (lc - 1), .int .i64 r, .slice none 0 0] 55)) (by simp [Value.oneCell']) (by decide) (by unfold maxLen; omega) (by omega) (by have := b6.size; omega) _ rfl
   have LV := inR_lv HW2.out.box HW2.out.row
   have lvR : Lv 4 W2 R := LV R (List.mem_cons_self ..)
   have hown : ∀ g, (Value.slice vu fs.length vc).ownBlock = some g → g ∈ inR R (.slice vu fs.length vc) := fun g e => List.mem_cons_of_mem _ (by rw [e]; simp)
   have STa : Stay (inR R (.slice vu fs.length vc)) W2 wa := Stay.grown (Stay.below (Stay.refl _ _) b6) hgr6 fun g e => .inl (hown g e)
   have hne : ∀ g, (Value.slice vu fs.length vc).ownBlock = some g → g ≠ R ∧ g ≠ b := fun g e => by
    have hR1 := (HW2.out.row.ge e).1
    refine ⟨by omega, ?_⟩
    rintro rfl
    exact absurd (LV g (hown g e) _ _ HLb.out) (by decide)
   have HRa : Hid (RowS 55 3 fnC wa (R + 1) (.slice (some ⟨g6, 0, none⟩) (fs.length + 1) cap6) (fs ++ [⟨ps, pu, lc - 1, r, [], none, 0⟩])) := RowS.push hown6
   have HAa : Hid (At wa R #[.slice vu fs.length vc, .bool false] 62) := (hgr6.block R (by have := b6.size; omega) (fun e => (hne R e.symm).1 rfl)).trans ((b6.block R (by omega)).trans HW2.out.box)
   have e0 : wa.cell? ⟨R, 0, none⟩ = some (.slice vu fs.length vc) := HAa.out.cell 0
   have ef : ∀ o, wa.frozen? ⟨R, o, none⟩ = false := fun o => froz_of_heap HAa.out
   have e1 : wa.cell? ⟨b, 0, none⟩ = some (.int .i64 r) := (cell_block (hgr6.block b (by have := b6.size; omega) (fun e => (hne b e.symm).2 rfl))).trans c6
   have ST9 : Stay (inR R (.slice vu fs.length vc)) W2 (wa.setCell ⟨R, 0, none⟩ (.slice (some ⟨g6, 0, none⟩) (fs.length + 1) cap6)) := STa.set (.inl (List.mem_cons_self ..))
   have HBa : Hid (Below R w (wa.setCell ⟨R, 0, none⟩ (.slice (some ⟨g6, 0, none⟩) (fs.length + 1) cap6))) := ((HB2.out.trans (b6.mono (by omega))).grown hgr6 (by have := b6.size; omega) (fun q hq => by have := (HW2.out.row.ge hq).1; omega)).setCell (Nat.le_refl _) _
   have HC : Hid (ClS (wa.setCell ⟨R, 0, none⟩ (.slice (some ⟨g6, 0, none⟩) (fs.length + 1) cap6)) R (n + 1) (fs ++ [⟨ps, pu, lc - 1, r, [], none, 0⟩]) (.slice (some ⟨g6, 0, none⟩) (fs.length + 1) cap6)) := by
    refine ⟨heap_set (o := 0) HAa.out, HRa.out.stay (S := [R]) ((Stay.refl _ _).set (.inl (List.mem_singleton.2 rfl))) (fun g e hm => ?_), fun f hf => ?_, by rw [List.length_append, List.length_singleton]; omega, fun f hf => ?_⟩
    ·have := (HRa.out.ge e).1
     have := List.mem_singleton.1 hm
     omega
    ·rcases List.mem_append.1 hf with hf | hf
     ·exact ((HW2.out.fsv f hf).stay ST9 fun b hb => .inr (LV b hb)).wide (Nat.le_refl _) ST9.size
     ·obtain rfl := List.mem_singleton.1 hf
      exact ⟨(HT2.out.stay ST9 fun b hb => .inr ((LV b hb).low (by decide))).wide (by omega) ST9.size, by simp, .inl rfl, fun e he => by cases he⟩
    ·rcases List.mem_append.1 hf with hf | hf
     ·have := HW2.out.bl f hf
      omega
     ·obtain rfl := List.mem_singleton.1 hf
      exact Nat.zero_le _
   have HQ : Hid (∀ x q', LineIs s x → LnOk x → Step (stC fs) x q' → q' = stC (fs ++ [⟨ps, pu, lc - 1, r, [], none, 0⟩])) := fun x q' hx hk hst => by
    rcases st_cl hst with ⟨_, r', ps', h2, h3⟩ | ⟨h1, _⟩
    ·rw [← (HT.out x hx hk).2.2, HL.out] at h2
     cases h2
     rw [h3]
     unfold stC
     rw [List.map_append]
     rfl
    ·have h3 := (HT.out x hx hk).2.1
     rw [HF.out, h1] at h3
     exact absurd (bs_inj h3) (by decide)
   clear HLb b6 HR6 hown6 hgr6 LV lvR hown STa hne HRa HAa ST9 HW2 HT2 HB2 HT HL HF
   refine readyX 12 rfl (by kernel_rfl) (fun K hK => ?_)
   go_simp
   refine hK.out _ _ (.inr ⟨c5, c6⟩) ?_
   clear hK K
   try simp only [Act.put, sA, sB, sC]
   refine readyX 13 rfl (by kernel_rfl) (fun K hK => ?_)
   refine step_runP rfl _ _ _ rfl rfl rfl hrun ?_
   refine hK.out _ _ (.inr ⟨e0, e1⟩) ?_
   clear hK K hrun
   try simp only [Act.put, sA, sB, sC]
   refine readyX 14 rfl (by kernel_rfl) (fun K hK => ?_)
   go_simp
   refine hK.out _ _ (.inr ⟨e0, e1⟩) ?_
   clear hK K
   try simp only [Act.put, sA, sB, sC]
   refine readyX 15 rfl (by kernel_rfl) (fun K hK => ?_)
   go_simp
   refine hK.out _ _ (.inr ⟨e0, e1⟩) ?_
   clear hK K
   try simp only [Act.put, sA, sB, sC]
   refine readyX 16 rfl (by kernel_rfl) (fun K hK => ?_)
   go_simp
   refine hK.out _ _ (.inr ⟨e0, e1⟩) ?_
   clear hK K
   try simp only [Act.put, sA, sB, sC]
   refine readyX 17 rfl (by kernel_rfl) (fun K hK => ?_)
   go_simp
   refine hK.out _ _ (.inl rfl) ?_
   clear hK K
   refine doneX (by kernel_rfl) ?_ _
   go_wp2_with fail
   go_ret
   exact ⟨.inl ⟨_, rfl, .inl ⟨_, _, HC.out, rfl⟩, HQ.out⟩, HBa.out⟩
 ·have q1 : (word.toList == [102, 117, 110, 99]) = false := wd_no (u := wFun) hf
  by_cases h0 : fs = []
  ·have HNo : Hid (∀ x q', LineIs s x → LnOk x → ¬ Step (stC fs) x q') := fun x q' hx hk hst => by
    rcases st_cl hst with ⟨h1, _⟩ | ⟨_, _, l2, ps, r, bs, h2, _⟩
    ·exact hf (by rw [(HT.out x hx hk).2.1, h1])
    ·rw [h0] at h2
     simp at h2
   have q2 : ((fs.length : Int) - 1) < 0 := by rw [h0]; simp
   clear h0
   go_wp2_with fail
   go_ret
   exact ⟨.inr ⟨rfl, HNo.out⟩, HBR.out⟩
  ·have hpos := List.length_pos_iff.2 h0
   have q2 : ¬ ((fs.length : Int) - 1) < 0 := by omega
   by_cases hb : word = bs wBlk
   ·have q3 : (word.toList == [98, 108, 111, 99, 107]) = true := wd_yes (u := wBlk) hb
    have HF : Hid (¬ word = bs wFun) := hf
    have HBk : Hid (word = bs wBlk) := hb
    obtain ⟨iB, hiB, zBk, sB', bB⟩ := info_three infoBkM
    obtain ⟨fl, f, hff⟩ : ∃ fl f, fs = fl ++ [f] := ⟨fs.dropLast, fs.getLast h0, (List.dropLast_concat_getLast h0).symm⟩
    have HFF : Hid (fs = fl ++ [f]) := hff
    have hfn : fs.length = fl.length + 1 := by rw [hff]; simp
    have HS1 : Hid (ClS w1 R n fs (.slice vu fs.length vc)) := HS.out.keep HB1.out
    obtain ⟨g, gcur, hgv, hgb, hgh, hgc⟩ := RowS.cellAt (C := fnC) (s := 3) (fun _ => rfl) HS1.out.row (i := fl.length) (e := f) (by rw [hff]; simp)
    subst hgv
    have x0 : w1.cell? ⟨g, fl.length * 3, none⟩ = some (.slice f.pu f.pars.length f.pc) := hgc 0 (by decide)
    have x1 : w1.cell? ⟨g, fl.length * 3 + 1, none⟩ = some (.int .i64 f.ret) := hgc 1 (by decide)
    have x2 : w1.cell? ⟨g, fl.length * 3 + 2, none⟩ = some (.slice f.bu f.bs.length f.bc) := hgc 2 (by decide)
    have c0 : w1.cell? ⟨R, 0, none⟩ = some (.slice (some ⟨g, 0, none⟩) fs.length vc) := HA1.out.cell 0
    have hk1 : ((fs.length : Int) - 1) = (fl.length : Int) := by omega
    have hk2 : (fl.length : Int) < (fs.length : Int) := by omega
    have hk3 : (0 : Int) ≤ (fl.length : Int) := by omega
    have hk4 : (fl.length : Int) < (fl.length : Int) + 1 := by omega
    have hfm : f ∈ fs := by rw [hff]; simp
    have hbl : f.bs.length ≤ n := HS.out.bl f hfm
    have HGH : Hid (w1.heap[g]? = some (.cells gcur 55 (0, 0))) := hgh
    have HFv : Hid (SFn w1 (R + 1) w1.heap.size f) := HS1.out.fsv f hfm
    clear hf hb h0 hff hfm hgc hgh q2 hpos
    have b2 : Below w1.heap.size w1 ((w1.alloc (.cells #[.slice f.pu f.pars.length f.pc, .int .i64 f.ret, .slice f.bu f.bs.length f.bc] 55)).alloc (.cells #[] 74)) := ((Below.refl _ _).alloc (Nat.le_refl _) _).alloc (by simp) _
    have zA : (w1.alloc (.cells #[.slice f.pu f.pars.length f.pc, .int .i64 f.ret, .slice f.bu f.bs.length f.bc] 55)).heap.size = w1.heap.size + 1 := by simp
    have zB2 : ((w1.alloc (.cells #[.slice f.pu f.pars.length f.pc, .int .i64 f.ret, .slice f.bu f.bs.length f.bc] 55)).alloc (.cells #[] 74)).heap.size = w1.heap.size + 2 := by simp
    have aF0 : At ((w1.alloc (.cells #[.slice f.pu f.pars.length f.pc, .int .i64 f.ret, .slice f.bu f.bs.length f.bc] 55)).alloc (.cells #[] 74)) w1.heap.size #[.slice f.pu f.pars.length f.pc, .int .i64 f.ret, .slice f.bu f.bs.length f.bc] 55 := (At.new w1 _ _).below ((Below.refl _ _).alloc (Nat.le_refl _) _)
    have aN : At ((w1.alloc (.cells #[.slice f.pu f.pars.length f.pc, .int .i64 f.ret, .slice f.bu f.bs.length f.bc] 55)).alloc (.cells #[] 74)) (w1.heap.size + 1) #[] 74 := by
     have := At.new (w1.alloc (.cells #[.slice f.pu f.pars.length f.pc, .int .i64 f.ret, .slice f.bu f.bs.length f.bc] 55)) #[] 74
     rwa [zA] at this
    have SLB : SL 74 6 bkC SBk w1 (R + 1) w1.heap.size f.bu f.bs := HFv.out.2
    have SLB2 : SL 74 6 bkC SBk ((w1.alloc (.cells #[.slice f.pu f.pars.length f.pc, .int .i64 f.ret, .slice f.bu f.bs.length f.bc] 55)).alloc (.cells #[] 74)) (R + 1) w1.heap.size f.bu f.bs := SLB.stay (Stay.below (Stay.refl [] _) b2) (by decide) (fun _ h => by cases h) fun _ k => k.stay (Stay.below (Stay.refl [] _) b2) (fun _ h => by cases h)
    have hbl2 : f.bs.length ≤ 20001 := by omega
    have CP := copyBks (c := f.bc) aN SLB2 hbl2
    obtain ⟨u1, cap1, wC, hrun1, hR1, hg1, hu1⟩ := CP
    have hu1N : w1.heap.size + 1 ≤ u1 := (hR1.ge rfl).1
    have bC : Below w1.heap.size w1 wC := b2.grown hg1 (by rw [zB2]; omega) (fun q e => by cases e; omega)
    have zC : w1.heap.size + 2 ≤ wC.heap.size := by have := hg1.size; omega
    have aFC : At wC w1.heap.size #[.slice f.pu f.pars.length f.pc, .int .i64 f.ret, .slice f.bu f.bs.length f.bc] 55 := (hg1.block _ (by rw [zB2]; omega) (fun e => by injection e with e; omega)).trans aF0
    have b3 : Below wC.heap.size wC (wC.alloc (.cells #[.slice none 0 0, .slice none 0 0, .int .i64 0, .int .i64 0, .int .i64 0, .int .i64 0] 74)) := (Below.refl _ _).alloc (Nat.le_refl _) _
    have hR2 : RowS 74 6 bkC (wC.alloc (.cells #[.slice none 0 0, .slice none 0 0, .int .i64 0, .int .i64 0, .int .i64 0, .int .i64 0] 74)) (w1.heap.size + 1) (.slice (some ⟨u1, 0, none⟩) f.bs.length cap1) f.bs := hR1.stay (Stay.below (Stay.refl [] _) b3) (fun _ _ hm => by cases hm)
    obtain ⟨g6, cap6, wE, hrun2, hown6, hgr6, _, _⟩ := run_append_lies (P := Tryz.prog) (wC.alloc (.cells #[.slice none 0 0, .slice none 0 0, .int .i64 0, .int .i64 0, .int .i64 0, .int .i64 0] 74)) 53 53 (w1.heap.size + 1) 74 iB (.agg #[.slice none 0 0, .slice none 0 0, .int .i64 0, .int .i64 0, .int .i64 0, .int .i64 0]) 6 80 Tryz.underlying53 hiB zBk sB' bB rfl (by decide) (.slice (some ⟨u1, 0, none⟩) f.bs.length cap1) f.bs.length (f.bs.flatMap bkC) hR2 ⟨wC.heap.size, 0, none⟩ 1 1 [.slice none 0 0, .slice none 0 0, .int .i64 0, .int .i64 0, .int .i64 0, .int .i64 0] rfl (World.news_of_block (At.new wC #[.slice none 0 0, .slice none 0 0, .int .i64 0, .int .i64 0, .int .i64 0, .int .i64 0] 74)) (by simp [Value.oneCell']) (by decide) (by unfold maxLen; omega) (by omega) (by have := b3.size; omega) _ rfl
    have HRE : Hid (RowS 74 6 bkC wE (w1.heap.size + 1) (.slice (some ⟨g6, 0, none⟩) (f.bs.length + 1) cap6) (f.bs ++ [(⟨[], none, 0, [], none, 0, ⟨0, 0, 0, 0⟩⟩ : BkE)])) := RowS.push hown6
    have HBE : Hid (Below w1.heap.size w1 wE) := (bC.trans (b3.mono (by omega))).grown hgr6 (by have := b3.size; omega) (fun q e => by cases e; show _ ≤ u1; omega)
    have HAE : Hid (At wE w1.heap.size #[.slice f.pu f.pars.length f.pc, .int .i64 f.ret, .slice f.bu f.bs.length f.bc] 55) := (hgr6.block _ (by have := b3.size; omega) (fun e => by injection e with e; have e2 : w1.heap.size = u1 := e; omega)).trans (aFC.below b3)
    have y2 : wE.cell? ⟨w1.heap.size, 2, none⟩ = some (.slice f.bu f.bs.length f.bc) := HAE.out.cell 2
    have y2C : ((w1.alloc (.cells #[.slice f.pu f.pars.length f.pc, .int .i64 f.ret, .slice f.bu f.bs.length f.bc] 55)).alloc (.cells #[] 74)).cell? ⟨w1.heap.size, 2, none⟩ = some (.slice f.bu f.bs.length f.bc) := aF0.cell 2
    have yf : ∀ o, wE.frozen? ⟨w1.heap.size, o, none⟩ = false := fun o => froz_of_heap HAE.out
    have zE : w1.heap.size + 2 ≤ wE.heap.size := by have := b3.size; have := hgr6.size; omega
    clear b2 aF0 aN SLB SLB2 hR1 hg1 bC aFC b3 hR2 hown6 hgr6 zA zB2 hu1
    go_wp2_with (at_builtin; first | (refine list_runP rfl _ _ _ rfl rfl rfl hrun1 ?_; clear hrun1) | (refine list_runP rfl _ _ _ rfl rfl rfl hrun2 ?_; clear hrun2))
    have HAF : Hid (At (wE.setCell ⟨w1.heap.size, 2, none⟩ (.slice (some ⟨g6, 0, none⟩) (f.bs.length + 1) cap6)) w1.heap.size #[.slice f.pu f.pars.length f.pc, .int .i64 f.ret, (.slice (some ⟨g6, 0, none⟩) (f.bs.length + 1) cap6)] 55) := heap_set (o := 2) HAE.out
    have HRF : Hid (RowS 74 6 bkC (wE.setCell ⟨w1.heap.size, 2, none⟩ (.slice (some ⟨g6, 0, none⟩) (f.bs.length + 1) cap6)) (w1.heap.size + 1) (.slice (some ⟨g6, 0, none⟩) (f.bs.length + 1) cap6) (f.bs ++ [(⟨[], none, 0, [], none, 0, ⟨0, 0, 0, 0⟩⟩ : BkE)])) := HRE.out.stay (S := [w1.heap.size]) ((Stay.refl _ _).set (.inl (List.mem_singleton.2 rfl))) (fun q e hm => by
     have := (HRE.out.ge e).1
     have := List.mem_singleton.1 hm
     omega)
    have HBF : Hid (Below w1.heap.size w1 (wE.setCell ⟨w1.heap.size, 2, none⟩ (.slice (some ⟨g6, 0, none⟩) (f.bs.length + 1) cap6))) := HBE.out.setCell (Nat.le_refl _) _
    have zF2 : w1.heap.size + 2 ≤ (wE.setCell ⟨w1.heap.size, 2, none⟩ (.slice (some ⟨g6, 0, none⟩) (f.bs.length + 1) cap6)).heap.size := by simpa using zE
    have hgl : g < w1.heap.size := (Array.getElem?_eq_some_iff.1 HGH.out).1
    have d0 : (wE.setCell ⟨w1.heap.size, 2, none⟩ (.slice (some ⟨g6, 0, none⟩) (f.bs.length + 1) cap6)).drew.cell? ⟨R, 0, none⟩ = some (.slice (some ⟨g, 0, none⟩) fs.length vc) := (HBF.out.cell (by show R < _; omega)).trans c0
    have f0 : (wE.setCell ⟨w1.heap.size, 2, none⟩ (.slice (some ⟨g6, 0, none⟩) (f.bs.length + 1) cap6)).drew.cell? ⟨w1.heap.size, 0, none⟩ = some (.slice f.pu f.pars.length f.pc) := HAF.out.cell 0
    have f1 : (wE.setCell ⟨w1.heap.size, 2, none⟩ (.slice (some ⟨g6, 0, none⟩) (f.bs.length + 1) cap6)).drew.cell? ⟨w1.heap.size, 1, none⟩ = some (.int .i64 f.ret) := HAF.out.cell 1
    have f2 : (wE.setCell ⟨w1.heap.size, 2, none⟩ (.slice (some ⟨g6, 0, none⟩) (f.bs.length + 1) cap6)).drew.cell? ⟨w1.heap.size, 2, none⟩ = some (.slice (some ⟨g6, 0, none⟩) (f.bs.length + 1) cap6) := HAF.out.cell 2
    have y0 : (wE.setCell ⟨w1.heap.size, 2, none⟩ (.slice (some ⟨g6, 0, none⟩) (f.bs.length + 1) cap6)).drew.cell? ⟨g, fl.length * 3, none⟩ = some (.slice f.pu f.pars.length f.pc) := (HBF.out.cell hgl).trans x0
    have y1 : (wE.setCell ⟨w1.heap.size, 2, none⟩ (.slice (some ⟨g6, 0, none⟩) (f.bs.length + 1) cap6)).drew.cell? ⟨g, fl.length * 3 + 1, none⟩ = some (.int .i64 f.ret) := (HBF.out.cell hgl).trans x1
    have y3 : (wE.setCell ⟨w1.heap.size, 2, none⟩ (.slice (some ⟨g6, 0, none⟩) (f.bs.length + 1) cap6)).drew.cell? ⟨g, fl.length * 3 + 2, none⟩ = some (.slice f.bu f.bs.length f.bc) := (HBF.out.cell hgl).trans x2
    have HGF : Hid ((wE.setCell ⟨w1.heap.size, 2, none⟩ (.slice (some ⟨g6, 0, none⟩) (f.bs.length + 1) cap6)).drew.heap[g]? = some (.cells gcur 55 (0, 0))) := (HBF.out.block g hgl).trans HGH.out
    have gf : ∀ o, (wE.setCell ⟨w1.heap.size, 2, none⟩ (.slice (some ⟨g6, 0, none⟩) (f.bs.length + 1) cap6)).drew.frozen? ⟨g, o, none⟩ = false := fun o => froz_of_heap HGF.out
    refine startX (fun w' => w'.cell? ⟨R, 0, none⟩ = some (.slice (some ⟨g, 0, none⟩) fs.length vc) ∧ w'.cell? ⟨w1.heap.size, 0, none⟩ = some (.slice f.pu f.pars.length f.pc) ∧ w'.cell? ⟨w1.heap.size, 1, none⟩ = some (.int .i64 f.ret) ∧ w'.cell? ⟨w1.heap.size, 2, none⟩ = some (.slice (some ⟨g6, 0, none⟩) (f.bs.length + 1) cap6)) (fun i => decide (7 ≤ i)) (by kernel_rfl) ?_
    have HAG : Hid (At (wE.setCell ⟨w1.heap.size, 2, none⟩ (.slice (some ⟨g6, 0, none⟩) (f.bs.length + 1) cap6)).drew w1.heap.size #[.slice f.pu f.pars.length f.pc, .int .i64 f.ret, (.slice (some ⟨g6, 0, none⟩) (f.bs.length + 1) cap6)] 55) := HAF.out
    have HRG : Hid (RowS 74 6 bkC (wE.setCell ⟨w1.heap.size, 2, none⟩ (.slice (some ⟨g6, 0, none⟩) (f.bs.length + 1) cap6)).drew (w1.heap.size + 1) (.slice (some ⟨g6, 0, none⟩) (f.bs.length + 1) cap6) (f.bs ++ [(⟨[], none, 0, [], none, 0, ⟨0, 0, 0, 0⟩⟩ : BkE)])) := HRF.out
    have HBG : Hid (Below w1.heap.size w1 (wE.setCell ⟨w1.heap.size, 2, none⟩ (.slice (some ⟨g6, 0, none⟩) (f.bs.length + 1) cap6)).drew) := HBF.out.drew
    have zG : w1.heap.size + 2 ≤ (wE.setCell ⟨w1.heap.size, 2, none⟩ (.slice (some ⟨g6, 0, none⟩) (f.bs.length + 1) cap6)).drew.heap.size := zF2
    clear x0 x1 x2 y2 yf zE HRE HBE HAE HAF HRF HBF zF2
    obtain ⟨WG, hWG⟩ : ∃ W, (wE.setCell ⟨w1.heap.size, 2, none⟩ (.slice (some ⟨g6, 0, none⟩) (f.bs.length + 1) cap6)).drew = W := ⟨_, rfl⟩
    rw [hWG] at d0 f0 f1 f2 y0 y1 y3 HGF gf HAG HRG HBG zG ⊢
    clear hWG
    refine takeX 0 (v := ?_) rfl rfl (by kernel_rfl) (fun _ _ _ h => h) (yesH (by rfl) ?_) ⟨d0, f0, f1, f2⟩ ?_
    rotate_left
    ·intro w9 hS9
     obtain ⟨g0, g1, g2, g3⟩ := hS9
     go_simp
     try with_reducible rfl
    try simp only [Act.put, sA, sB, sC]
    refine takeX 1 (v := ?_) rfl rfl (by kernel_rfl) (fun _ _ _ h => h) (yesH (by rfl) ?_) ⟨d0, f0, f1, f2⟩ ?_
    rotate_left
    ·intro w9 hS9
     obtain ⟨g0, g1, g2, g3⟩ := hS9
     go_simp
     try with_reducible rfl
    try simp only [Act.put, sA, sB, sC]
    refine takeX 2 (v := ?_) rfl rfl (by kernel_rfl) (fun _ _ _ h => h) (yesH (by rfl) ?_) ⟨d0, f0, f1, f2⟩ ?_
    rotate_left
    ·intro w9 hS9
     obtain ⟨g0, g1, g2, g3⟩ := hS9
     go_simp
     try with_reducible rfl
    try simp only [Act.put, sA, sB, sC]
    refine takeX 3 (v := ?_) rfl rfl (by kernel_rfl) (fun _ _ _ h => h) (yesH (by rfl) ?_) ⟨d0, f0, f1, f2⟩ ?_
    rotate_left
    ·intro w9 hS9
     obtain ⟨g0, g1, g2, g3⟩ := hS9
     go_simp
     try with_reducible rfl
    try simp only [Act.put, sA, sB, sC]
    refine takeX 4 (v := ?_) rfl rfl (by kernel_rfl) (fun _ _ _ h => h) (yesH (by rfl) ?_) ⟨d0, f0, f1, f2⟩ ?_
    rotate_left
    ·intro w9 hS9
     obtain ⟨g0, g1, g2, g3⟩ := hS9
     go_simp
     try with_reducible rfl
    try simp only [Act.put, sA, sB, sC]
    refine takeX 5 (v := ?_) rfl rfl (by kernel_rfl) (fun _ _ _ h => h) (yesH (by rfl) ?_) ⟨d0, f0, f1, f2⟩ ?_
    rotate_left
    ·intro w9 hS9
     obtain ⟨g0, g1, g2, g3⟩ := hS9
     go_simp
     try with_reducible rfl
    try simp only [Act.put, sA, sB, sC]
    refine takeX 6 (v := ?_) rfl rfl (by kernel_rfl) (fun _ _ _ h => h) (yesH (by rfl) ?_) ⟨d0, f0, f1, f2⟩ ?_
    rotate_left
    ·intro w9 hS9
     obtain ⟨g0, g1, g2, g3⟩ := hS9
     go_simp
     try with_reducible rfl
    try simp only [Act.put, sA, sB, sC]
    refine readyX 7 rfl (by kernel_rfl) (fun K hK => ?_)
    go_simp
    refine hK.out _ _ (.inl rfl) ?_
    clear hK K
    try simp only [Act.put, sA, sB, sC]
    have hgR : g ≠ R := by omega
    have HX0 : RowS 55 3 fnC WG (R + 1) (.slice (some ⟨g, 0, none⟩) (fl.length + 1) vc) (fl ++ [f]) := by
     have := HS1.out.row
     rw [HFF.out] at this
     have e : (fl ++ [f]).length = fl.length + 1 := by simp
     rw [e] at this
     exact this.stay (S := []) (Stay.below (Stay.refl [] _) HBG.out) (fun _ _ hm => by cases hm)
    have HXr : RowS 55 3 fnC (((WG.setCell ⟨g, fl.length * 3, none⟩ (.slice f.pu f.pars.length f.pc)).setCell ⟨g, fl.length * 3 + 1, none⟩ (.int .i64 f.ret)).setCell ⟨g, fl.length * 3 + 2, none⟩ (.slice (some ⟨g6, 0, none⟩) (f.bs.length + 1) cap6)) (R + 1) (.slice (some ⟨g, 0, none⟩) (fl.length + 1) vc) (fl ++ [(⟨f.pars, f.pu, f.pc, f.ret, f.bs ++ [(⟨[], none, 0, [], none, 0, ⟨0, 0, 0, 0⟩⟩ : BkE)], some ⟨g6, 0, none⟩, cap6⟩ : FnE)]) := RowS.last (C := fnC) (s := 3) (fun _ => rfl) HX0 fun cur h => by
     have h1 := heap_setCells (fnC (⟨f.pars, f.pu, f.pc, f.ret, f.bs ++ [(⟨[], none, 0, [], none, 0, ⟨0, 0, 0, 0⟩⟩ : BkE)], some ⟨g6, 0, none⟩, cap6⟩ : FnE)) (fl.length * 3) WG cur h
     have e : (f.bs ++ [(⟨[], none, 0, [], none, 0, ⟨0, 0, 0, 0⟩⟩ : BkE)]).length = f.bs.length + 1 := by simp
     have h2 : WG.setCells g (fl.length * 3) (fnC (⟨f.pars, f.pu, f.pc, f.ret, f.bs ++ [(⟨[], none, 0, [], none, 0, ⟨0, 0, 0, 0⟩⟩ : BkE)], some ⟨g6, 0, none⟩, cap6⟩ : FnE)) = (((WG.setCell ⟨g, fl.length * 3, none⟩ (.slice f.pu f.pars.length f.pc)).setCell ⟨g, fl.length * 3 + 1, none⟩ (.int .i64 f.ret)).setCell ⟨g, fl.length * 3 + 2, none⟩ (.slice (some ⟨g6, 0, none⟩) (f.bs.length + 1) cap6)) := by
      show ((WG.setCell _ _).setCell _ _).setCell ⟨g, fl.length * 3 + 1 + 1, none⟩ (.slice (some ⟨g6, 0, none⟩) (f.bs ++ [(⟨[], none, 0, [], none, 0, ⟨0, 0, 0, 0⟩⟩ : BkE)]).length cap6) = _
      rw [e]
     rw [h2] at h1
     exact h1
    have AR0 : At WG R #[.slice (some ⟨g, 0, none⟩) fs.length vc, .bool false] 62 := HA1.out.below HBG.out
    have ARX : At (((WG.setCell ⟨g, fl.length * 3, none⟩ (.slice f.pu f.pars.length f.pc)).setCell ⟨g, fl.length * 3 + 1, none⟩ (.int .i64 f.ret)).setCell ⟨g, fl.length * 3 + 2, none⟩ (.slice (some ⟨g6, 0, none⟩) (f.bs.length + 1) cap6)) R #[.slice (some ⟨g, 0, none⟩) fs.length vc, .bool false] 62 := At.setOther (At.setOther (At.setOther AR0 (by omega)) (by omega)) (by omega)
    have AFF : At (((WG.setCell ⟨g, fl.length * 3, none⟩ (.slice f.pu f.pars.length f.pc)).setCell ⟨g, fl.length * 3 + 1, none⟩ (.int .i64 f.ret)).setCell ⟨g, fl.length * 3 + 2, none⟩ (.slice (some ⟨g6, 0, none⟩) (f.bs.length + 1) cap6)) w1.heap.size #[.slice f.pu f.pars.length f.pc, .int .i64 f.ret, (.slice (some ⟨g6, 0, none⟩) (f.bs.length + 1) cap6)] 55 := At.setOther (At.setOther (At.setOther HAG.out (by omega)) (by omega)) (by omega)
    have r1 : (((WG.setCell ⟨g, fl.length * 3, none⟩ (.slice f.pu f.pars.length f.pc)).setCell ⟨g, fl.length * 3 + 1, none⟩ (.int .i64 f.ret)).setCell ⟨g, fl.length * 3 + 2, none⟩ (.slice (some ⟨g6, 0, none⟩) (f.bs.length + 1) cap6)).cell? ⟨R, 1, none⟩ = some (.bool false) := ARX.cell 1
    have rf : ∀ o, (((WG.setCell ⟨g, fl.length * 3, none⟩ (.slice f.pu f.pars.length f.pc)).setCell ⟨g, fl.length * 3 + 1, none⟩ (.int .i64 f.ret)).setCell ⟨g, fl.length * 3 + 2, none⟩ (.slice (some ⟨g6, 0, none⟩) (f.bs.length + 1) cap6)).frozen? ⟨R, o, none⟩ = false := fun o => froz_of_heap ARX
    have t2 : (((WG.setCell ⟨g, fl.length * 3, none⟩ (.slice f.pu f.pars.length f.pc)).setCell ⟨g, fl.length * 3 + 1, none⟩ (.int .i64 f.ret)).setCell ⟨g, fl.length * 3 + 2, none⟩ (.slice (some ⟨g6, 0, none⟩) (f.bs.length + 1) cap6)).cell? ⟨w1.heap.size, 2, none⟩ = some (.slice (some ⟨g6, 0, none⟩) (f.bs.length + 1) cap6) := AFF.cell 2
    have AY : At ((((WG.setCell ⟨g, fl.length * 3, none⟩ (.slice f.pu f.pars.length f.pc)).setCell ⟨g, fl.length * 3 + 1, none⟩ (.int .i64 f.ret)).setCell ⟨g, fl.length * 3 + 2, none⟩ (.slice (some ⟨g6, 0, none⟩) (f.bs.length + 1) cap6)).setCell ⟨R, 1, none⟩ (.bool true)) R #[.slice (some ⟨g, 0, none⟩) fs.length vc, .bool true] 62 := heap_set (o := 1) ARX
    have STX : Stay [R, g] w1 (((WG.setCell ⟨g, fl.length * 3, none⟩ (.slice f.pu f.pars.length f.pc)).setCell ⟨g, fl.length * 3 + 1, none⟩ (.int .i64 f.ret)).setCell ⟨g, fl.length * 3 + 2, none⟩ (.slice (some ⟨g6, 0, none⟩) (f.bs.length + 1) cap6)) := (((Stay.below (Stay.refl _ _) HBG.out).set (.inl (by simp))).set (.inl (by simp))).set (.inl (by simp))
    have STY : Stay [R, g] w1 ((((WG.setCell ⟨g, fl.length * 3, none⟩ (.slice f.pu f.pars.length f.pc)).setCell ⟨g, fl.length * 3 + 1, none⟩ (.int .i64 f.ret)).setCell ⟨g, fl.length * 3 + 2, none⟩ (.slice (some ⟨g6, 0, none⟩) (f.bs.length + 1) cap6)).setCell ⟨R, 1, none⟩ (.bool true)) := STX.set (.inl (by simp))
    have STG : Stay [R, g] WG ((((WG.setCell ⟨g, fl.length * 3, none⟩ (.slice f.pu f.pars.length f.pc)).setCell ⟨g, fl.length * 3 + 1, none⟩ (.int .i64 f.ret)).setCell ⟨g, fl.length * 3 + 2, none⟩ (.slice (some ⟨g6, 0, none⟩) (f.bs.length + 1) cap6)).setCell ⟨R, 1, none⟩ (.bool true)) := ((((Stay.refl _ _).set (.inl (by simp))).set (.inl (by simp))).set (.inl (by simp))).set (.inl (by simp))
    have LV : ∀ b, b ∈ [R, g] → w1.heap.size ≤ b ∨ Lv 4 w1 b := fun b hb => .inr (by
     simp only [List.mem_cons, List.not_mem_nil, or_false] at hb
     rcases hb with rfl | rfl
     ·exact Lv.of HA1.out (by decide)
     ·exact Lv.of HGH.out (by decide))
    have HBY : Hid (Below R w ((((WG.setCell ⟨g, fl.length * 3, none⟩ (.slice f.pu f.pars.length f.pc)).setCell ⟨g, fl.length * 3 + 1, none⟩ (.int .i64 f.ret)).setCell ⟨g, fl.length * 3 + 2, none⟩ (.slice (some ⟨g6, 0, none⟩) (f.bs.length + 1) cap6)).setCell ⟨R, 1, none⟩ (.bool true))) := ((((HBR.out.trans (HBG.out.mono (by omega))).setCell (by dsimp only; omega) _).setCell (by dsimp only; omega) _).setCell (by dsimp only; omega) _).setCell (Nat.le_refl _) _
    have HOp : Hid (OpS ((((WG.setCell ⟨g, fl.length * 3, none⟩ (.slice f.pu f.pars.length f.pc)).setCell ⟨g, fl.length * 3 + 1, none⟩ (.int .i64 f.ret)).setCell ⟨g, fl.length * 3 + 2, none⟩ (.slice (some ⟨g6, 0, none⟩) (f.bs.length + 1) cap6)).setCell ⟨R, 1, none⟩ (.bool true)) R w1.heap.size (n + 1) fl (⟨f.pars, f.pu, f.pc, f.ret, f.bs ++ [(⟨[], none, 0, [], none, 0, ⟨0, 0, 0, 0⟩⟩ : BkE)], some ⟨g6, 0, none⟩, cap6⟩ : FnE) f.bs (⟨[], none, 0, [], none, 0, ⟨0, 0, 0, 0⟩⟩ : BkE) (.slice (some ⟨g, 0, none⟩) fs.length vc)) := by
     refine ⟨AY, ?_, fun q hq => (HS1.out.fsv q (by rw [HFF.out]; simp [hq])).stay STY LV, HFv.out.1.stay STY (lv_one LV), ?_, rfl, fun q hq => (HFv.out.2.2.2 q hq).stay STY LV, RowS.nil _ _ _ _ _, RowS.nil _ _ _ _ _, fun q hq => (by cases hq), fun q hq => (by cases hq), rfl, by omega, STY.size, by omega, fun q hq => ?_, ?_, Nat.zero_le _, Nat.zero_le _⟩
     ·rw [hfn]
      exact HXr.stay (S := [R]) ((Stay.refl _ _).set (.inl (by simp))) (fun q e hm => by
       have := List.mem_singleton.1 hm
       have e2 : g = q := by simpa [Value.ownBlock] using e
       omega)
     ·have h1 := HRG.out.stay STG (fun q e hm => by
       have := (HRG.out.ge e).1
       simp only [List.mem_cons, List.not_mem_nil, or_false] at hm
       rcases hm with rfl | rfl <;> omega)
      have h2 : RowS 74 6 bkC ((((WG.setCell ⟨g, fl.length * 3, none⟩ (.slice f.pu f.pars.length f.pc)).setCell ⟨g, fl.length * 3 + 1, none⟩ (.int .i64 f.ret)).setCell ⟨g, fl.length * 3 + 2, none⟩ (.slice (some ⟨g6, 0, none⟩) (f.bs.length + 1) cap6)).setCell ⟨R, 1, none⟩ (.bool true)) w1.heap.size (.slice (some ⟨g6, 0, none⟩) (f.bs.length + 1) cap6) (f.bs ++ [(⟨[], none, 0, [], none, 0, ⟨0, 0, 0, 0⟩⟩ : BkE)]) := World.ownsRow.mono h1 (by omega)
      have e : (f.bs ++ [(⟨[], none, 0, [], none, 0, ⟨0, 0, 0, 0⟩⟩ : BkE)]).length = f.bs.length + 1 := by simp
      show RowS _ _ _ _ _ (.slice _ (f.bs ++ [(⟨[], none, 0, [], none, 0, ⟨0, 0, 0, 0⟩⟩ : BkE)]).length _) _
      rw [e]
      exact h2
     ·have := HS.out.bl q (by rw [HFF.out]; simp [hq])
      omega
     ·show (f.bs ++ [(⟨[], none, 0, [], none, 0, ⟨0, 0, 0, 0⟩⟩ : BkE)]).length ≤ n + 1
      rw [List.length_append, List.length_singleton]
      omega
    have HQ : Hid (∀ x q', LineIs s x → LnOk x → Step (stC fs) x q' → l = [] ∧ f.bs.length + 1 ≤ 10 ∧ q' = stO fl (⟨f.pars, f.pu, f.pc, f.ret, f.bs ++ [(⟨[], none, 0, [], none, 0, ⟨0, 0, 0, 0⟩⟩ : BkE)], some ⟨g6, 0, none⟩, cap6⟩ : FnE) f.bs (⟨[], none, 0, [], none, 0, ⟨0, 0, 0, 0⟩⟩ : BkE)) := fun x q' hx hk hst => by
     rcases st_cl hst with ⟨h1, _⟩ | ⟨_, h2, l2, ps, r, bs, h3, h4, h5⟩
     ·exact absurd (by rw [(HT.out x hx hk).2.1, h1]) HF.out
     ·rw [HFF.out, List.map_append] at h3
      obtain ⟨e1, e2⟩ := List.append_inj' h3 rfl
      have e3 : f.d = ⟨ps, r, bs⟩ := by simpa using e2
      have e4 : bs = f.bs.map BkE.d := by rw [FnE.d] at e3; cases e3; rfl
      refine ⟨by rw [(HT.out x hx hk).2.2, h2], by rw [e4, List.length_map] at h4; omega, ?_⟩
      rw [h5, ← e1]
      rw [FnE.d] at e3
      cases e3
      rfl
    clear HXr HX0 AR0 ARX AFF AY STX STY STG LV HRG HBG HS1 HFv HAG HGF HGH HFF HS HT HF HBk HI HB1 HBR HA1
    refine readyX 8 rfl (by kernel_rfl) (fun K hK => ?_)
    go_simp
    refine hK.out _ _ (.inl rfl) ?_
    clear hK K
    refine doneX (by kernel_rfl) ?_ _
    by_cases hcase : l = [] ∧ f.bs.length + 1 ≤ 10
    ·obtain ⟨hl0, h10⟩ := hcase
     have k1 : ((l.length : Int) == 0) = true := by rw [hl0]; rfl
     have k2 : ((f.bs.length : Int) + 1) ≤ 10 := by omega
     have HQ2 : Hid (∀ x q', LineIs s x → LnOk x → Step (stC fs) x q' → q' = stO fl (⟨f.pars, f.pu, f.pc, f.ret, f.bs ++ [(⟨[], none, 0, [], none, 0, ⟨0, 0, 0, 0⟩⟩ : BkE)], some ⟨g6, 0, none⟩, cap6⟩ : FnE) f.bs (⟨[], none, 0, [], none, 0, ⟨0, 0, 0, 0⟩⟩ : BkE)) := fun x q' hx hk hst => (HQ.out x q' hx hk hst).2.2
     clear hl0 HQ
     go_wp2_with fail
     go_ret
     exact ⟨.inl ⟨_, rfl, .inr ⟨_, _, _, _, _, _, HOp.out, rfl⟩, HQ2.out⟩, HBY.out⟩
    ·have HNo : Hid (∀ x q', LineIs s x → LnOk x → ¬ Step (stC fs) x q') := fun x q' hx hk hst => hcase ⟨(HQ.out x q' hx hk hst).1, (HQ.out x q' hx hk hst).2.1⟩
     by_cases hl0 : l = []
     ·have k1 : ((l.length : Int) == 0) = true := by rw [hl0]; rfl
      have k2 : ¬ ((f.bs.length : Int) + 1) ≤ 10 := fun h => hcase ⟨hl0, by omega⟩
      clear hl0 hcase HQ HOp
      go_wp2_with fail
      go_ret
      exact ⟨.inr ⟨rfl, HNo.out⟩, HBY.out⟩
     ·have k1 : ((l.length : Int) == 0) = false := by have := List.length_pos_iff.2 hl0; simp; omega
      clear hl0 hcase HQ HOp
      go_wp2_with fail
      go_ret
      exact ⟨.inr ⟨rfl, HNo.out⟩, HBY.out⟩
   ·have q3 : (word.toList == [98, 108, 111, 99, 107]) = false := wd_no (u := wBlk) hb
    have HNo : Hid (∀ x q', LineIs s x → LnOk x → ¬ Step (stC fs) x q') := fun x q' hx hk hst => by
     rcases st_cl hst with ⟨h1, _⟩ | ⟨h1, _⟩
     ·exact hf (by rw [(HT.out x hx hk).2.1, h1])
     ·exact hb (by rw [(HT.out x hx hk).2.1, h1])
    go_wp2_with fail
    go_ret
    exact ⟨.inr ⟨rfl, HNo.out⟩, HBR.out⟩
end Go.Proofs.YtkpmiikafconmaaGreatDoor
