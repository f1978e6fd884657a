/- The widths of operands: typesOf, unaryTypeOk, operandTypesOk, termTypeOk. -/
import Derived.Test.YtolaghondjfhdabGreatDoorOpsQ
import Derived.Test.YtolaghondjfhdabGreatDoorFmDQ
import Derived.Deep.RegionHeld2
import Derived.BigQuiet
import Derived.Deep.QuietTactic
namespace Go.Proofs.YtolaghondjfhdabGreatDoor
open Go.RowKit
set_option linter.unusedVariables false

def unB (op w f : Int) : Bool := if op = 18 ∨ op = 19 then f != 0 && decide (f < w) else if op = 20 then decide (w < f) else f == w
theorem opr_facts {w w1 : World} {T : TypeId} {op iw a b c imm : Int} {sl : Value} (h : Below (w.alloc (.cells #[.int .i64 op, .int .i64 iw, .int .i64 a, .int .i64 b, .int .i64 c, .int .i64 imm, sl] T)).heap.size (w.alloc (.cells #[.int .i64 op, .int .i64 iw, .int .i64 a, .int .i64 b, .int .i64 c, .int .i64 imm, sl] T)) w1) :
    w1.heap[w.heap.size]? = some (.cells #[.int .i64 op, .int .i64 iw, .int .i64 a, .int .i64 b, .int .i64 c, .int .i64 imm, sl] T (0, 0)) ∧ w.heap.size < w1.heap.size ∧ (∀ b o v, b < w.heap.size → w.cell? ⟨b, o, none⟩ = some v → w1.cell? ⟨b, o, none⟩ = some v) ∧ Below w.heap.size w w1 := by
  have hz := h.size
  simp at hz
  exact ⟨(h.block _ (by simp)).trans (heap_alloc_last _ _), by omega, fun b o v hb hc => (bcell h b o (by simp; omega)).trans (cell_new hb hc), ((Below.refl w.heap.size w).alloc (Nat.le_refl _) _).trans (h.mono (by simp))⟩
theorem below_drewN {b : Nat} {w w' : World} (h : Below b w w') (n : Nat) : Below b w (w'.drewN n) := ⟨h.os, h.tape, h.output, h.size, h.block⟩
theorem nat_of {a : Int} {n : Nat} (h : 0 ≤ a ∧ a < n) : ∃ x : Nat, a = x ∧ x < n := ⟨a.toNat, by omega, by omega⟩
end Go.Proofs.YtolaghondjfhdabGreatDoor
namespace Go.Proofs.YtolaghondjfhdabGreatDoor
open Go.RowKit
set_option linter.unusedVariables false

structure Form (funcs : Int) (d : FuncD) : Prop where
  p4 : d.params.length ≤ 4
  pw : ∀ x ∈ d.params, widthB x = true
  b1 : 1 ≤ d.blocks.length
  b10 : d.blocks.length ≤ 10
  c60 : cntF d ≤ 60
  blk : ∀ b ∈ d.blocks, blockB (cntF d) d.blocks.length funcs b = true
theorem form_of {funcs : Int} {d : FuncD} (h : funcB funcs d = true) : Form funcs d := by
  simp only [funcB, Bool.and_eq_true, decide_eq_true_eq, List.all_eq_true] at h
  obtain ⟨⟨⟨⟨⟨⟨h1, h2⟩, h3⟩, h4⟩, h5⟩, h6⟩, h7⟩ := h
  exact ⟨h1, h2, h4, h5, h6, h7⟩
theorem below_yes {n c : Int} (h : belowB n c = true) : 0 ≤ n ∧ n < c := by simpa [belowB] using h
structure FBlk (ids blocks funcs : Int) (b : BlockD) : Prop where
  phw : ∀ p ∈ b.phis, widthB p.w = true
  phl : ∀ p ∈ b.phis, p.ins.length ≤ 10
  phi : ∀ p ∈ b.phis, ∀ id ∈ p.ins, 0 ≤ id ∧ id < ids
  ops : ∀ i ∈ b.insts, ∀ id ∈ opsD i, 0 ≤ id ∧ id < ids
  inw : ∀ i ∈ b.insts, wB i = true
  imm : ∀ i ∈ b.insts, i.op = 26 → 0 ≤ i.imm ∧ i.imm < funcs
  trm : termB b.term ids blocks = true
theorem fblk_of {ids blocks funcs : Int} {b : BlockD} (h : blockB ids blocks funcs b = true) : FBlk ids blocks funcs b := by
  simp only [blockB, Bool.and_eq_true, List.all_eq_true] at h
  obtain ⟨⟨h1, h2⟩, h3⟩ := h
  refine ⟨fun p hp => ?_, fun p hp => ?_, fun p hp id hid => ?_, fun i hi id hid => ?_, fun i hi => ?_, fun i hi ho => ?_, h3⟩
  · have := h1 p hp; simp only [phiB, Bool.and_eq_true] at this; exact this.1.1
  · have := h1 p hp; simp only [phiB, Bool.and_eq_true, decide_eq_true_eq] at this; exact this.1.2
  · have := h1 p hp; simp only [phiB, Bool.and_eq_true, List.all_eq_true] at this; exact below_yes (this.2 id hid)
  · have := h2 i hi; simp only [instB, Bool.and_eq_true, List.all_eq_true] at this; exact below_yes (this.2 id hid)
  · have := h2 i hi; simp only [instB, Bool.and_eq_true] at this; exact this.1.1.1
  · have := h2 i hi; simp only [instB, Bool.and_eq_true] at this
    have k := this.1.1.2
    simp only [iB, ho] at k
    exact below_yes (by simpa using k)
theorem Form.at {funcs : Int} {d : FuncD} (h : Form funcs d) {k : Nat} (hk : k < d.blocks.length) : FBlk (cntF d) d.blocks.length funcs (d.blocks.getD k block0) := fblk_of (h.blk _ (getD_mem block0 d.blocks k hk))
theorem Form.term_a {ids blocks funcs : Int} {b : BlockD} (h : FBlk ids blocks funcs b) (k : b.term.kind = 1 ∨ b.term.kind = 3) : 0 ≤ b.term.a ∧ b.term.a < ids := by
  have := h.trm
  unfold termB at this
  rcases k with k | k
  · rw [if_pos k] at this; simp only [Bool.and_eq_true] at this; exact below_yes this.1.1
  · rw [if_neg (by omega), if_neg (by omega), if_pos k] at this; simp only [Bool.and_eq_true] at this; exact below_yes this.1.1.1
theorem Form.right {funcs : Int} {d : FuncD} (h : Form funcs d) : RightL d.blocks := by
  refine ⟨h.b1, h.b10, fun i hi x hx => ?_⟩
  have t := (h.at hi).trm
  unfold termAt tgtD at hx
  unfold termB at t
  by_cases k2 : (d.blocks.getD i block0).term.kind = 2
  · rw [if_pos k2] at hx
    rw [if_neg (by omega), if_pos k2] at t
    simp only [Bool.and_eq_true] at t
    obtain rfl := List.mem_singleton.1 hx
    exact below_yes t.1.1
  · rw [if_neg k2] at hx
    by_cases k3 : (d.blocks.getD i block0).term.kind = 3
    · rw [if_pos k3] at hx
      rw [if_neg (by omega), if_neg k2, if_pos k3] at t
      simp only [Bool.and_eq_true] at t
      rcases List.mem_cons.1 hx with rfl | hx
      · exact below_yes t.1.1.2
      · obtain rfl := List.mem_singleton.1 hx; exact below_yes t.1.2
    · rw [if_neg k3] at hx; cases hx
theorem width_pos {w : Int} (h : widthB w = true) : 0 < w := by rcases width_yes h with h | h | h | h <;> omega
theorem inst_ge {i : InstD} (h : wB i = true) : 0 ≤ instW i := by
  unfold instW
  split
  · rename_i hb
    unfold resZ
    split
    · rename_i h2; split
      · omega
      · have := width_pos h2.2; omega
    · omega
  · unfold wB at h
    split at h
    · cases h
    · split at h
      · simp at h; omega
      · split at h
        · simp at h; omega
        · exact Int.le_of_lt (width_pos h)
theorem Form.type_ge {funcs : Int} {d : FuncD} (h : Form funcs d) {id : Int} (h0 : 0 ≤ id) (hl : id < cntF d) : 0 ≤ typeF d id := by
  rcases place_cases d id with k | ⟨j, hj, k⟩ | ⟨b, j, hb, hj, k⟩
  · exact absurd (by rw [k]) (place_in h0 hl)
  · have : typeF d id = d.params.getD j 0 := by simp [typeF, k]
    rw [this]; exact Int.le_of_lt (width_pos (h.pw _ (getD_mem 0 d.params j hj)))
  · have a1 : ¬ ((b : Int) = -2) := by omega
    have a2 : ¬ ((b : Int) = -1) := by omega
    simp only [typeF, k, if_neg a1, if_neg a2, Int.toNat_natCast]
    have hf := h.at hb
    generalize d.blocks.getD b block0 = x at hf hj
    by_cases c : (j : Int) < x.phis.length
    · rw [if_pos c]; exact Int.le_of_lt (width_pos (hf.phw _ (getD_mem phi0 x.phis j (by omega))))
    · rw [if_neg c]
      unfold cntB at hj
      exact inst_ge (hf.inw _ (getD_mem inst0 x.insts _ (by omega)))
end Go.Proofs.YtolaghondjfhdabGreatDoor
namespace Go.Proofs.YtolaghondjfhdabGreatDoor
open Go.RowKit
set_option linter.unusedVariables false

theorem FBox.set {d : FuncD} {u0 u2 : Option Addr} {c0 c2 : Nat} {w w1 : World} (h : FBox d u0 c0 u2 c2 w w1) {g o : Nat} {v : Value} (hg : w.heap.size < g) : FBox d u0 c0 u2 c2 w (w1.setCell ⟨g, o, none⟩ v) :=
  ⟨cell_far hg h.a0, cell_far hg h.a1, cell_far hg h.a2, h.below.setCell (by show w.heap.size ≤ g; omega) _, by simpa [World.setCell] using h.size⟩
/-- A package-level variable that holds a value. -/
structure Gv (w : World) (g : Nat) (v : Value) : Prop where
  cell : w.cell? ⟨g, 0, none⟩ = some v
  lt : g < w.heap.size
theorem Gv.below {w w' : World} {g : Nat} {v : Value} {b : Nat} (h : Gv w g v) (k : Below b w w') (hb : g < b) : Gv w' g v := ⟨(cell_block (k.block g hb)).trans h.cell, Nat.lt_of_lt_of_le h.lt k.size⟩
theorem Gv.keep {w w' : World} {g : Nat} {v : Value} (h : Gv w g v) (k : Below w.heap.size w w') : Gv w' g v := h.below k h.lt
/-- An error that is one. -/
def errV (a : Addr) : Value := .iface 180 (.pointer (some a))
def outV (b : Bool) (v : Value) : Value := if b = true then .nilIface else v
set_option maxHeartbeats 2000000 in
theorem typesI (lo : Nat) (d : FuncD) (u0 : Option Addr) (c0 : Nat) (u2 : Option Addr) (c2 : Nat) (w : World) (hs : SmFunc d) (k0 : IntsAt w lo u0 d.params) (k2 : BlocksAt w lo u2 d.blocks) (hc : cntF d ≤ 60) :
    Calls Tryz.prog 65 #[.agg #[.slice u0 d.params.length c0, .int .i64 d.ret, .slice u2 d.blocks.length c2]] w fun e w' => (∃ N, e = .returned (.slice (some ⟨N, 0, none⟩) (cntF d) (cntF d)) ∧ IntsAt w' w.heap.size (some ⟨N, 0, none⟩) (tysF d)) ∧ Below w.heap.size w w' := by
  obtain ⟨i0, hi, hz0, hz1, hz2⟩ := info_parts infoI
  have hmk := mk_any (t := 22) (cntF d) Tryz.underlying22 hi hz0 hz1 hz2 (by omega) (by omega)
  clear hi hz0 hz1 hz2
  have HS : Hid (SmFunc d) := hs
  have F0 := FBox.start (d := d) (u0 := u0) (u2 := u2) (c0 := c0) (c2 := c2) (w := w) (T := 30)
  clear hs
  go_enter Tryz.func65, Tryz.ntmps65
  go_wp2_with fail
  refine (countI_any lo d u0 c0 u2 c2 _ HS.out (k2.keep (agree_of_below F0.below lo))).mono ?_
  rintro e w1 ⟨rfl, hb1⟩
  have F1 := F0.keep hb1
  clear hb1 F0
  have HF : Hid (FBox d u0 c0 u2 c2 w w1) := F1
  have hz1 := F1.size
  clear F1
  go_wp2_with fail
  go_loopw [10] (fun i wr => ∃ (k : Nat) (cur : Array Value), k ≤ cntF d ∧ i = .int .i64 k ∧ cur.size = cntF d ∧ wr.heap[w1.heap.size]? = some (.cells cur 2 (0, 0)) ∧ (∀ j : Nat, j < k → cur[j]? = some (.int .i64 (typeF d j))) ∧ FBox d u0 c0 u2 c2 w wr) (fun i _ => cntF d - (intOf i).toNat)
  case atStart => exact ⟨0, _, by omega, rfl, by simp [size_madeCells], heap_alloc_last _ _, fun j hj => by omega, HF.out.alloc _⟩
  case round =>
    obtain ⟨k, cur, hk, rfl, hcs, hblk, hdone, hB⟩ := hrel
    clear hmk HF
    have b0 := hB.a0
    have b1 := hB.a1
    have b2 := hB.a2
    have hB1 := hB.below
    have hw1 : w1.heap.size < wr.heap.size := (Array.getElem?_eq_some_iff.1 hblk).1
    by_cases hlt : k < cntF d
    · have HFB : Hid (FBox d u0 c0 u2 c2 w wr) := hB
      have D := typeI_any lo d u0 c0 u2 c2 k wr HS.out (k0.keep (agree_of_below hB1 lo)) (k2.keep (agree_of_below hB1 lo)) (by omega)
      have HH : Hid (wr.heap[w1.heap.size]? = some (.cells cur 2 (0, 0))) := hblk
      have HD : Hid (∀ j : Nat, j < k → cur[j]? = some (.int .i64 (typeF d j))) := hdone
      generalize hv : typeF d (k : Int) = v at D
      have HV : Hid (typeF d (k : Int) = v) := hv
      clear hblk hdone hB hB1 hv k0 k2
      go_wp2_with (go_at_call 92; refine D.mono ?_; rintro e w2 ⟨rfl, hb2⟩; have HB2 : Hid (Below wr.heap.size wr w2) := hb2; have h2 := (hb2.block w1.heap.size hw1).trans HH.out; have e1 : w2.cell? ⟨w1.heap.size, k, none⟩ = some (cur[k]'(by omega)) := (by rw [cell_of_heap h2]; simp [hcs, hlt]); have e2 : w2.frozen? ⟨w1.heap.size, k, none⟩ = false := froz_of_heap h2; have H2 : Hid (w2.heap[w1.heap.size]? = some (.cells cur 2 (0, 0))) := h2; clear hb2 h2)
      go_roundw
      case rel =>
        refine ⟨k + 1, cur.setIfInBounds k (.int .i64 v), by omega, by go_num, by simpa using hcs, heap_set H2.out, fun j hj => ?_, (HFB.out.keep HB2.out).set (by omega)⟩
        by_cases hjk : j = k
        · subst hjk; rw [HV.out]; simp [hcs, hlt]
        · rw [Array.getElem?_setIfInBounds_ne (by omega)]; exact HD.out j (by omega)
      case measure => simp [intOf]; omega
    · have HH : Hid (wr.heap[w1.heap.size]? = some (.cells cur 2 (0, 0))) := hblk
      have HD : Hid (∀ j : Nat, j < k → cur[j]? = some (.int .i64 (typeF d j))) := hdone
      have HB1 : Hid (Below w.heap.size w wr) := hB1
      clear hblk hdone hB hB1
      go_wp2_with fail
      go_ret
      refine ⟨⟨_, rfl, ⟨by rw [tys_len]; omega, .inr ⟨w1.heap.size, 0, rfl, by omega, hw1, fun i hi => ?_⟩⟩⟩, HB1.out⟩
      rw [tys_len] at hi
      rw [Nat.zero_add, cell_of_heap HH.out, HD.out i (by omega), tys_at hi]
end Go.Proofs.YtolaghondjfhdabGreatDoor
