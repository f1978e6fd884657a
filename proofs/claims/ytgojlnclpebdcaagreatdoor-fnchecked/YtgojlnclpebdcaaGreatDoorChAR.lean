import Derived.Test.YtgojlnclpebdcaaGreatDoorOpsR
import Derived.Test.YtgojlnclpebdcaaGreatDoorFmDR
import Derived.Test.YtgojlnclpebdcaaGreatDoorFmHR
namespace Go.Proofs.YtgojlnclpebdcaaGreatDoor
open Go.RowKit
set_option linter.unusedVariables false
structure Form (funcs : Int) (d : FuncD) : Prop where
 p4 : d.params.length ≤ 4
 pw : ∀ x ∈ d.params, widthB x = true
 b1 : 1 ≤ d.blocks.length
 b10 : d.blocks.length ≤ 10
 c60 : cntF d ≤ 60
 blk : ∀ b ∈ d.blocks, blockB (cntF d) d.blocks.length funcs b = true
theorem form_of {funcs : Int} {d : FuncD} (h : funcB funcs d = true) : Form funcs d := by
 simp only [funcB, Bool.and_eq_true, decide_eq_true_eq, List.all_eq_true] at h
 obtain ⟨⟨⟨⟨⟨⟨h1, h2⟩, h3⟩, h4⟩, h5⟩, h6⟩, h7⟩ := h
 exact ⟨h1, h2, h4, h5, h6, h7⟩
theorem below_yes {n c : Int} (h : belowB n c = true) : 0 ≤ n ∧ n < c := by simpa [belowB] using h
structure FBlk (ids blocks funcs : Int) (b : BlockD) : Prop where
 phw : ∀ p ∈ b.phis, widthB p.w = true
 phl : ∀ p ∈ b.phis, p.ins.length ≤ 10
 phi : ∀ p ∈ b.phis, ∀ id ∈ p.ins, 0 ≤ id ∧ id < ids
 ops : ∀ i ∈ b.insts, ∀ id ∈ opsD i, 0 ≤ id ∧ id < ids
 inw : ∀ i ∈ b.insts, wB i = true
 imm : ∀ i ∈ b.insts, i.op = 26 → 0 ≤ i.imm ∧ i.imm < funcs
 trm : termB b.term ids blocks = true
theorem fblk_of {ids blocks funcs : Int} {b : BlockD} (h : blockB ids blocks funcs b = true) : FBlk ids blocks funcs b := by
 simp only [blockB, Bool.and_eq_true, List.all_eq_true] at h
 obtain ⟨⟨h1, h2⟩, h3⟩ := h
 refine ⟨fun p hp => ?_, fun p hp => ?_, fun p hp id hid => ?_, fun i hi id hid => ?_, fun i hi => ?_, fun i hi ho => ?_, h3⟩
 ·have := h1 p hp; simp only [phiB, Bool.and_eq_true] at this; exact this.1.1
 ·have := h1 p hp; simp only [phiB, Bool.and_eq_true, decide_eq_true_eq] at this; exact this.1.2
 ·have := h1 p hp; simp only [phiB, Bool.and_eq_true, List.all_eq_true] at this; exact below_yes (this.2 id hid)
 ·have := h2 i hi; simp only [instB, Bool.and_eq_true, List.all_eq_true] at this; exact below_yes (this.2 id hid)
 ·have := h2 i hi; simp only [instB, Bool.and_eq_true] at this; exact this.1.1.1
 ·have := h2 i hi; simp only [instB, Bool.and_eq_true] at this
  have k := this.1.1.2
  simp only [iB, ho] at k
  exact below_yes (by simpa using k)
theorem Form.at {funcs : Int} {d : FuncD} (h : Form funcs d) {k : Nat} (hk : k < d.blocks.length) : FBlk (cntF d) d.blocks.length funcs (d.blocks.getD k block0) := fblk_of (h.blk _ (getD_mem block0 d.blocks k hk))
theorem Form.term_a {ids blocks funcs : Int} {b : BlockD} (h : FBlk ids blocks funcs b) (k : b.term.kind = 1 ∨ b.term.kind = 3) : 0 ≤ b.term.a ∧ b.term.a < ids := by
 have := h.trm
 unfold termB at this
 rcases k with k | k
 ·rw [if_pos k] at this; simp only [Bool.and_eq_true] at this; exact below_yes this.1.1
 ·rw [if_neg (by omega), if_neg (by omega), if_pos k] at this; simp only [Bool.and_eq_true] at this; exact below_yes this.1.1.1
theorem Form.right {funcs : Int} {d : FuncD} (h : Form funcs d) : RightL d.blocks := by
 refine ⟨h.b1, h.b10, fun i hi x hx => ?_⟩
 have t := (h.at hi).trm
 unfold termAt tgtD at hx
 unfold termB at t
 by_cases k2 : (d.blocks.getD i block0).term.kind = 2
 ·rw [if_pos k2] at hx
  rw [if_neg (by omega), if_pos k2] at t
  simp only [Bool.and_eq_true] at t
  obtain rfl := List.mem_singleton.1 hx
  exact below_yes t.1.1
 ·rw [if_neg k2] at hx
  by_cases k3 : (d.blocks.getD i block0).term.kind = 3
  ·rw [if_pos k3] at hx
   rw [if_neg (by omega), if_neg k2, if_pos k3] at t
   simp only [Bool.and_eq_true] at t
   rcases List.mem_cons.1 hx with rfl | hx
   ·exact below_yes t.1.1.2
   ·obtain rfl := List.mem_singleton.1 hx; exact below_yes t.1.2
  ·rw [if_neg k3] at hx; cases hx
theorem width_pos {w : Int} (h : widthB w = true) : 0 < w := by rcases width_yes h with h | h | h | h <;> omega
theorem inst_ge {i : InstD} (h : wB i = true) : 0 ≤ instW i := by
 unfold instW
 split
 ·rename_i hb
  unfold resZ
  split
  ·rename_i h2; split
   ·omega
   ·have := width_pos h2.2; omega
  ·omega
 ·unfold wB at h
  split at h
  ·cases h
  ·split at h
   ·simp at h; omega
   ·split at h
    ·simp at h; omega
    ·exact Int.le_of_lt (width_pos h)
theorem Form.type_ge {funcs : Int} {d : FuncD} (h : Form funcs d) {id : Int} (h0 : 0 ≤ id) (hl : id < cntF d) : 0 ≤ typeF d id := by
 rcases place_cases d id with k | ⟨j, hj, k⟩ | ⟨b, j, hb, hj, k⟩
 ·exact absurd (by rw [k]) (place_in h0 hl)
 ·have : typeF d id = d.params.getD j 0 := by simp [typeF, k]
  rw [this]; exact Int.le_of_lt (width_pos (h.pw _ (getD_mem 0 d.params j hj)))
 ·have a1 : ¬ ((b : Int) = -2) := by omega
  have a2 : ¬ ((b : Int) = -1) := by omega
  simp only [typeF, k, if_neg a1, if_neg a2, Int.toNat_natCast]
  have hf := h.at hb
  generalize d.blocks.getD b block0 = x at hf hj
  by_cases c : (j : Int) < x.phis.length
  ·rw [if_pos c]; exact Int.le_of_lt (width_pos (hf.phw _ (getD_mem phi0 x.phis j (by omega))))
  ·rw [if_neg c]
   unfold cntB at hj
   exact inst_ge (hf.inw _ (getD_mem inst0 x.insts _ (by omega)))
end Go.Proofs.YtgojlnclpebdcaaGreatDoor
namespace Go.Proofs.YtgojlnclpebdcaaGreatDoor
open Go.RowKit
set_option linter.unusedVariables false
theorem FBox.set {d : FuncD} {u0 u2 : Option Addr} {c0 c2 : Nat} {w w1 : World} (h : FBox d u0 c0 u2 c2 w w1) {g o : Nat} {v : Value} (hg : w.heap.size < g) : FBox d u0 c0 u2 c2 w (w1.setCell ⟨g, o, none⟩ v) :=
 ⟨cell_far hg h.a0, cell_far hg h.a1, cell_far hg h.a2, h.below.setCell (by show w.heap.size ≤ g; omega) _, by simpa [World.setCell] using h.size⟩
structure Gv (w : World) (g : Nat) (v : Value) : Prop where
 cell : w.cell? ⟨g, 0, none⟩ = some v
 lt : g < w.heap.size
theorem Gv.below {w w' : World} {g : Nat} {v : Value} {b : Nat} (h : Gv w g v) (k : Below b w w') (hb : g < b) : Gv w' g v := ⟨(cell_block (k.block g hb)).trans h.cell, Nat.lt_of_lt_of_le h.lt k.size⟩
theorem Gv.keep {w w' : World} {g : Nat} {v : Value} (h : Gv w g v) (k : Below w.heap.size w w') : Gv w' g v := h.below k h.lt
def errV (a : Addr) : Value := .iface 212 (.pointer (some a))
def outV (b : Bool) (v : Value) : Value := if b = true then .nilIface else v
set_option maxHeartbeats 2000000 in
theorem typesI (lo : Nat) (d : FuncD) (u0 : Option Addr) (c0 : Nat) (u2 : Option Addr) (c2 : Nat) (w : World) (hs : SmFunc d) (k0 : IntsAt w lo u0 d.params) (k2 : BlocksAt w lo u2 d.blocks) (hc : cntF d ≤ 60) :
  Calls Tryz.prog 82 #[.agg #[.slice u0 d.params.length c0, .int .i64 d.ret, .slice u2 d.blocks.length c2]] w fun e w' => (∃ N, e = .returned (.slice (some ⟨N, 0, none⟩) (cntF d) (cntF d)) ∧ IntsAt w' w.heap.size (some ⟨N, 0, none⟩) (tysF d)) ∧ Below w.heap.size w w' := by
 obtain ⟨i0, hi, hz0, hz1, hz2⟩ := info_parts infoI
 have hmk := mk_any (t := 33) (cntF d) Tryz.underlying33 hi hz0 hz1 hz2 (by omega) (by omega)
 clear hi hz0 hz1 hz2
 have HS : Hid (SmFunc d) := hs
 have F0 := FBox.start (d := d) (u0 := u0) (u2 := u2) (c0 := c0) (c2 := c2) (w := w) (T := 36)
 clear hs
 go_enter Tryz.func82, Tryz.ntmps82
 go_wp2_with fail
 refine (countI_any lo d u0 c0 u2 c2 _ HS.out (k2.keep (agree_of_below F0.below lo))).mono ?_
 rintro e w1 ⟨rfl, hb1⟩
 have F1 := F0.keep hb1
 clear hb1 F0
 have HF : Hid (FBox d u0 c0 u2 c2 w w1) := F1
 have hz1 := F1.size
 clear F1
 go_wp2_with fail
 go_loopw [10] (fun i wr => ∃ (k : Nat) (cur : Array Value), k ≤ cntF d ∧ i = .int .i64 k ∧ cur.size = cntF d ∧ wr.heap[w1.heap.size]? = some (.cells cur 2 (0, 0)) ∧ (∀ j : Nat, j < k → cur[j]? = some (.int .i64 (typeF d j))) ∧ FBox d u0 c0 u2 c2 w wr) (fun i _ => cntF d - (intOf i).toNat)
 case atStart => exact ⟨0, _, by omega, rfl, by simp [size_madeCells], heap_alloc_last _ _, fun j hj => by omega, HF.out.alloc _⟩
 case round =>
  obtain ⟨k, cur, hk, rfl, hcs, hblk, hdone, hB⟩ := hrel
  clear hmk HF
  have b0 := hB.a0
  have b1 := hB.a1
  have b2 := hB.a2
  have hB1 := hB.below
  have hw1 : w1.heap.size < wr.heap.size := (Array.getElem?_eq_some_iff.1 hblk).1
  by_cases hlt : k < cntF d
  ·have HFB : Hid (FBox d u0 c0 u2 c2 w wr) := hB
   have D := typeI_any lo d u0 c0 u2 c2 k wr HS.out (k0.keep (agree_of_below hB1 lo)) (k2.keep (agree_of_below hB1 lo)) (by omega)
   have HH : Hid (wr.heap[w1.heap.size]? = some (.cells cur 2 (0, 0))) := hblk
   have HD : Hid (∀ j : Nat, j < k → cur[j]? = some (.int .i64 (typeF d j))) := hdone
   generalize hv : typeF d (k : Int) = v at D
   have HV : Hid (typeF d (k : Int) = v) := hv
   clear hblk hdone hB hB1 hv k0 k2
   go_wp2_with (go_at_call 15; refine D.mono ?_; rintro e w2 ⟨rfl, hb2⟩; have HB2 : Hid (Below wr.heap.size wr w2) := hb2; have h2 := (hb2.block w1.heap.size hw1).trans HH.out; have e1 : w2.cell? ⟨w1.heap.size, k, none⟩ = some (cur[k]'(by omega)) := (by rw [cell_of_heap h2]; simp [hcs, hlt]); have e2 : w2.frozen? ⟨w1.heap.size, k, none⟩ = false := froz_of_heap h2; have H2 : Hid (w2.heap[w1.heap.size]? = some (.cells cur 2 (0, 0))) := h2; clear hb2 h2)
   go_roundw
   case rel =>
    refine ⟨k + 1, cur.setIfInBounds k (.int .i64 v), by omega, by go_num, by simpa using hcs, heap_set H2.out, fun j hj => ?_, (HFB.out.keep HB2.out).set (by omega)⟩
    by_cases hjk : j = k
    ·subst hjk; rw [HV.out]; simp [hcs, hlt]
    ·rw [Array.getElem?_setIfInBounds_ne (by omega)]; exact HD.out j (by omega)
   case measure => simp [intOf]; omega
  ·have HH : Hid (wr.heap[w1.heap.size]? = some (.cells cur 2 (0, 0))) := hblk
   have HD : Hid (∀ j : Nat, j < k → cur[j]? = some (.int .i64 (typeF d j))) := hdone
   have HB1 : Hid (Below w.heap.size w wr) := hB1
   clear hblk hdone hB hB1
   go_wp2_with fail
   go_ret
   refine ⟨⟨_, rfl, ⟨by rw [tys_len]; omega, .inr ⟨w1.heap.size, 0, rfl, by omega, hw1, fun i hi => ?_⟩⟩⟩, HB1.out⟩
   rw [tys_len] at hi
   rw [Nat.zero_add, cell_of_heap HH.out, HD.out i (by omega), tys_at hi]
set_option maxHeartbeats 2000000 in
theorem entryI (lo : Nat) (d : FuncD) (u0 : Option Addr) (c0 : Nat) (u2 : Option Addr) (c2 : Nat) (a : Addr) (w : World) (hs : SmFunc d) (k2 : BlocksAt w lo u2 d.blocks) (hR : RightL d.blocks) (hv : Gv w 2 (errV a)) :
  Calls Tryz.prog 48 #[.agg #[.slice u0 d.params.length c0, .int .i64 d.ret, .slice u2 d.blocks.length c2]] w fun e w' => e = .returned (outV (entB d) (errV a)) ∧ Below w.heap.size w w' := by
 have hb1 := hR.1
 obtain ⟨r, hr⟩ : ∃ r, r = ints (predN (succN d.blocks) d.blocks.length 0) := ⟨_, rfl⟩
 have hPR : PredR d.blocks 0 r := ⟨fun _ => hr, fun h => absurd ⟨hR, by omega, by omega⟩ h⟩
 have hrl : r.length = (predN (succN d.blocks) d.blocks.length 0).length := by rw [hr]; simp [ints]
 have F0 := FBox.start (d := d) (u0 := u0) (u2 := u2) (c0 := c0) (c2 := c2) (w := w) (T := 36)
 have D := predsI lo d u0 c0 u2 c2 0 r _ hs (k2.keep (agree_of_below F0.below lo)) hPR
 have hv2 := hv.keep F0.below
 have HG : Hid (Gv w 2 (errV a)) := hv
 have g0 := hv.cell
 have g1 := hv.lt
 unfold errV at g0
 have HB0 : Hid (entB d = (decide ((d.blocks.getD 0 block0).phis.length = 0) && decide (r.length = 0))) := by show _ = _; rw [entB, hrl]
 rcases k2.2 with hn | ⟨b, off, rfl, hlo, hb, hcell⟩
 ·simp [hn] at hb1
 obtain ⟨⟨v0, q0, h0, m0⟩, _⟩ := hcell 0 (by omega)
 simp only [Nat.zero_mul, Nat.add_zero] at h0
 generalize d.blocks.getD 0 block0 = x at h0 m0 HB0
 have hm0 := m0.1
 have hbl := hs.2.1
 clear hr hPR hrl hs hcell m0 k2 hR hv2 F0 hv
 by_cases h1 : x.phis.length = 0
 ·by_cases h2 : r.length = 0
  ·have E : Hid (.nilIface = outV (entB d) (errV a)) := by show _ = _; rw [HB0.out]; simp [outV, h1, h2]
   rw [h1] at h0
   go_enter Tryz.func48, Tryz.ntmps48
   go_wp2_with (go_at_call 14; refine D.mono ?_; rintro e w1 ⟨v, rfl, ho, hb1'⟩; obtain ⟨vu, vc, rfl⟩ := own_slice ho; rw [h2]; clear ho)
   go_ret
   exact ⟨congrArg Ending.returned E.out, ((Below.refl w.heap.size w).alloc (Nat.le_refl _) _).trans (hb1'.mono (by simp))⟩
  ·have E : Hid (errV a = outV (entB d) (errV a)) := by show _ = _; rw [HB0.out]; simp [outV, h2]
   have h3 : (0 : Int) < r.length := by omega
   rw [h1] at h0
   go_enter Tryz.func48, Tryz.ntmps48
   go_wp2_with (go_at_call 14; refine D.mono ?_; rintro e w1 ⟨v, rfl, ho, hb1'⟩; obtain ⟨vu, vc, rfl⟩ := own_slice ho; have g0' := (bcell hb1' 2 0 (by simp; omega)).trans (cell_new g1 g0); clear ho)
   go_ret
   exact ⟨congrArg Ending.returned E.out, ((Below.refl w.heap.size w).alloc (Nat.le_refl _) _).trans (hb1'.mono (by simp))⟩
 ·have E : Hid (errV a = outV (entB d) (errV a)) := by show _ = _; rw [HB0.out]; simp [outV, h1]
  have h3 : (0 : Int) < x.phis.length := by omega
  go_enter Tryz.func48, Tryz.ntmps48
  go_wp2_with fail
  go_ret
  exact ⟨congrArg Ending.returned E.out, (Below.refl w.heap.size w).alloc (Nat.le_refl _) _⟩
end Go.Proofs.YtgojlnclpebdcaaGreatDoor
namespace Go.Proofs.YtgojlnclpebdcaaGreatDoor
open Go.RowKit
set_option linter.unusedVariables false
theorem ret_out {v : Value} {b : Bool} {x : Value} (h : v = outV b x) : Ending.returned v = .returned (outV b x) := by rw [h]
set_option maxHeartbeats 4000000 in
theorem phisI (lo : Nat) (d : FuncD) (u0 : Option Addr) (c0 : Nat) (u2 : Option Addr) (c2 : Nat) (a : Addr) (w : World) (hs : SmFunc d) (k2 : BlocksAt w lo u2 d.blocks) (hR : RightL d.blocks) (hv : Gv w 3 (errV a)) :
  Calls Tryz.prog 49 #[.agg #[.slice u0 d.params.length c0, .int .i64 d.ret, .slice u2 d.blocks.length c2]] w fun e w' => e = .returned (outV (phsB d) (errV a)) ∧ Below w.heap.size w w' := by
 have hb1 := hR.1
 have hb10 := hR.2.1
 have HS : Hid (SmFunc d) := hs
 have HR : Hid (RightL d.blocks) := hR
 have F0 := FBox.start (d := d) (u0 := u0) (u2 := u2) (c0 := c0) (c2 := c2) (w := w) (T := 36)
 have D := graphI lo d u0 c0 u2 c2 _ hs (k2.keep (agree_of_below F0.below lo))
 clear hs hR
 go_enter Tryz.func49, Tryz.ntmps49
 go_wp2_with (go_at_call 35; refine D.mono ?_; rintro e w1 ⟨hb1', h1⟩; obtain ⟨N, hN, rfl, hG⟩ := (h1.resolve_left (fun h => h.1 HR.out)).2; have HG : Hid (Graph w1 N d.blocks.length (succN d.blocks)) := hG; have HF1 : Hid (FBox d u0 c0 u2 c2 w w1) := F0.keep hb1'; have hN' : w.heap.size < N := (by simp at hN; omega); clear hb1' h1 hG hN F0 D)
 go_loopw [10] (fun i wr => ∃ k : Nat, k ≤ d.blocks.length ∧ i = .int .i64 k ∧ Hid (∀ j, j < k → phaB d j = true) ∧ Hid (FBox d u0 c0 u2 c2 w wr) ∧ Hid (Graph wr N d.blocks.length (succN d.blocks))) (fun i _ => d.blocks.length - (intOf i).toNat)
 case atStart => exact ⟨0, by omega, rfl, fun j hj => by omega, HF1.out, HG.out⟩
 case round =>
  obtain ⟨k, hk, rfl, HD, HF, HGr⟩ := hrel
  clear HG HF1
  obtain ⟨wo, hwo⟩ : ∃ wo, wo = wr := ⟨_, rfl⟩
  subst hwo
  by_cases hlt : k < d.blocks.length
  ·have a2 := HF.out.a2
   have hW := HF.out.below
   have hzo := HF.out.size
   obtain ⟨sa, sc, pa, pc, hh, _, _⟩ := HGr.out.node k hlt
   have c0' := HGr.out.head k hlt
   unfold ptrV at c0'
   have c1 : wo.cell? ⟨N + 1 + k, 0, none⟩ = some (.int .i64 k) := (cell_of_heap hh).trans rfl
   have c3 : wo.cell? ⟨N + 1 + k, 2, none⟩ = some (.slice pa (predN (succN d.blocks) d.blocks.length k).length pc) := (cell_of_heap hh).trans rfl
   have hNk : N + 1 + k < wo.heap.size := (Array.getElem?_eq_some_iff.1 hh).1
   rcases k2.2 with hn | ⟨b, off, rfl, hlo, hb, hcell⟩
   ·simp [hn] at hlt
   obtain ⟨⟨v0, q0, h0, m0⟩, _⟩ := hcell k hlt
   have PB : Hid (phaB d k = (d.blocks.getD k block0).phis.all fun p => decide (p.ins.length = (predN (succN d.blocks) d.blocks.length k).length)) := (by show _ = _; rfl)
   have hsm := (HS.out.2.2 _ (getD_mem block0 d.blocks k hlt)).1
   have hpl := pred_len (S := succN d.blocks) (n := d.blocks.length) (x := k)
   generalize hpn : (predN (succN d.blocks) d.blocks.length k).length = pn at c3 PB hpl
   generalize d.blocks.getD k block0 = x at h0 m0 PB hsm
   have e0 : wo.cell? ⟨b, off + k * 6, none⟩ = some (.slice v0 x.phis.length q0) := (cell_block (hW.block b hb)).trans h0
   have M0 := m0.keep (agree_of_below hW lo)
   have s0 := hsm.1
   have SP : Hid (∀ p ∈ x.phis, SmPhi p) := hsm.2
   have g0 := (hv.keep hW).cell
   have g1 := (hv.keep hW).lt
   have hbo : b < wo.heap.size := Nat.lt_of_lt_of_le hb hW.size
   unfold errV at g0
   clear hcell h0 m0 hsm hpn hh hW
   go_wp2_with fail
   go_quiet (fail)
   go_wp2_with fail
   clear c0' c1 e0
   go_loopw [24] (fun i wr => ∃ j : Nat, j ≤ x.phis.length ∧ i = .int .i64 j ∧ Hid (∀ q, q < j → (x.phis.getD q phi0).ins.length = pn) ∧ Hid (Below wo.heap.size wo wr)) (fun i _ => x.phis.length - (intOf i).toNat)
   case atStart => exact ⟨0, by omega, rfl, fun q hq => by omega, below_drewN (Below.refl _ _) _⟩
   case round =>
    obtain ⟨j, hj, rfl, HJ, HB⟩ := hrel
    obtain ⟨wp, hwp⟩ : ∃ wp, wp = wr := ⟨_, rfl⟩
    subst hwp
    have hB := HB.out
    have hzp := hB.size
    have c3' := (bcell hB _ _ hNk).trans c3
    have g0' := (bcell hB _ _ g1).trans g0
    by_cases hjl : j < x.phis.length
    ·rcases M0.2 with hn | ⟨pb, po, rfl, hplo, hpb, hpc⟩
     ·simp [hn] at hjl
     obtain ⟨hi0, ⟨iu, iq, hi1, im⟩⟩ := hpc j hjl
     have hil := im.1
     generalize hp : x.phis.getD j phi0 = p at hi0 hi1 im hil
     have HP : Hid (x.phis.getD j phi0 = p) := hp
     have f0 : wp.cell? ⟨pb, po + j * 2, none⟩ = some (.int .i64 p.w) := (bcell hB _ _ hpb).trans hi0
     have f1 : wp.cell? ⟨pb, po + j * 2 + 1, none⟩ = some (.slice iu p.ins.length iq) := (bcell hB _ _ hpb).trans hi1
     have zp : N + 1 + k < wp.heap.size := by omega
     have zg : 3 < wp.heap.size := by omega
     clear hpc hi0 hi1 im hp M0 c3 g0 hB a2
     by_cases hq : p.ins.length = pn
     ·have hq2 : (p.ins.length : Int) = pn := by omega
      have HQ : Hid (p.ins.length = pn) := hq
      clear hq
      go_wp2_with fail
      go_quiet (fail)
      go_wp2_with fail
      go_roundw
      case rel =>
       refine ⟨j + 1, by omega, by go_num, fun q hq => ?_, below_drewN (HB.out.alloc hzp _) _⟩
       by_cases e : q = j
       ·subst e; rw [HP.out]; exact HQ.out
       ·exact HJ.out q (by omega)
      case measure => simp [intOf]; omega
     ·have hq2 : ¬ (p.ins.length : Int) = pn := by omega
      have E : Hid (errV a = outV (phsB d) (errV a)) := by
       have hno : phaB d k = false := by
        rw [PB.out]; exact all_no phi0 x.phis j hjl (by rw [HP.out]; simp [hq])
       have : phsB d = false := all_no 0 (List.range d.blocks.length) k (by simp; exact hlt) (by simp [hlt, hno])
       show _ = _
       rw [this]; rfl
      clear hq
      go_wp2_with fail
      go_quiet (fail)
      go_wp2_with fail
      go_ret
      exact ⟨ret_out E.out, HF.out.below.trans ((below_drewN (HB.out.alloc hzp _) _).mono HF.out.below.size)⟩
    ·have YES : Hid (phaB d k = true) := by
      show _ = _
      rw [PB.out]; exact all_yes phi0 x.phis (fun q hq => decide_eq_true (HJ.out q (by omega)))
     clear c3' g0' hB M0
     go_wp2_with fail
     go_roundw
     case rel =>
      refine ⟨k + 1, by omega, by go_num, fun q hq => ?_, HF.out.keep HB.out, HGr.out.keep (agree_of_below HB.out _)⟩
      by_cases e : q = k
      ·subst e; exact YES.out
      ·exact HD.out q (by omega)
     case measure => simp [intOf]; omega
  ·have E : Hid (.nilIface = outV (phsB d) (errV a)) := by
    have : phsB d = true := by
     unfold phsB
     rw [List.all_eq_true]
     exact fun q hq => HD.out q (by have := List.mem_range.1 hq; omega)
    show _ = _
    rw [this]; rfl
   go_wp2_with fail
   go_ret
   exact ⟨ret_out E.out, HF.out.below⟩
end Go.Proofs.YtgojlnclpebdcaaGreatDoor
namespace Go.Proofs.YtgojlnclpebdcaaGreatDoor
open Go.RowKit
set_option linter.unusedVariables false
theorem argB_congr {t t' : Int → Int} {i : InstD} (h : ∀ id ∈ opsD i, t id = t' id) : argB t i = argB t' i := by
 rcases op_split i.op with ho | ho | ho | ho | ho | ho | ho | ho | ho | ho | ho | ⟨ho, hk⟩
 ·simp [opsD, ho] at h; simp [argB, ho, h]
 ·simp [opsD, ho, show opB 18 = false by decide] at h; simp [argB, ho, h, show opB 18 = false by decide]
 ·simp [opsD, ho, show opB 19 = false by decide] at h; simp [argB, ho, h, show opB 19 = false by decide]
 ·simp [opsD, ho, show opB 20 = false by decide] at h; simp [argB, ho, h, show opB 20 = false by decide]
 ·simp [argB, ho, show opB 21 = false by decide]
 ·simp [opsD, ho, show opB 22 = false by decide] at h; simp [argB, ho, h, show opB 22 = false by decide]
 ·simp [opsD, ho, show opB 23 = false by decide] at h; simp [argB, ho, h, show opB 23 = false by decide]
 ·simp [opsD, ho, show opB 24 = false by decide] at h; simp [argB, ho, h, show opB 24 = false by decide]
 ·simp [opsD, ho, show opB 25 = false by decide] at h; simp [argB, ho, h, show opB 25 = false by decide]
 ·simp [argB, ho, show opB 26 = false by decide]
 ·simp [opsD, ho, show opB 27 = false by decide] at h; simp [argB, ho, h, show opB 27 = false by decide]
 ·have g1 : ¬ i.op = 18 := by omega
  have g2 : ¬ i.op = 19 := by omega
  have g3 : ¬ i.op = 20 := by omega
  have g4 : ¬ i.op = 22 := by omega
  have g5 : ¬ i.op = 23 := by omega
  have g6 : ¬ i.op = 24 := by omega
  have g7 : ¬ i.op = 25 := by omega
  have g8 : ¬ i.op = 27 := by omega
  simp [argB, ho, g1, g2, g3, g4, g5, g6, g7, g8]
def tyL (d : FuncD) : Int → Int := fun i => (tysF d).getD i.toNat 0
theorem tyL_at {d : FuncD} {id : Int} (h : 0 ≤ id ∧ id < cntF d) : tyL d id = typeF d id := by
 unfold tyL
 rw [tys_at (by omega)]
 congr 1; omega
theorem cells2 {w w' : World} {a : Int} {v : Value} {T : TypeId} (h : Below (w.heap.size + 1) (w.alloc (.cells #[.int .i64 a, v] T)) w') :
  w'.cell? ⟨w.heap.size, 0, none⟩ = some (.int .i64 a) ∧ w'.cell? ⟨w.heap.size, 1, none⟩ = some v := by
 have e : w'.heap[w.heap.size]? = some (.cells #[.int .i64 a, v] T (0, 0)) := (h.block _ (by omega)).trans (heap_alloc_last _ _)
 exact ⟨(cell_of_heap e).trans rfl, (cell_of_heap e).trans rfl⟩
theorem cells6c {w w' : World} {v0 v1 : Value} {t0 t1 t2 t3 : Int} {T : TypeId} (h : Below (w.heap.size + 1) (w.alloc (.cells #[v0, v1, .int .i64 t0, .int .i64 t1, .int .i64 t2, .int .i64 t3] T)) w') :
  w'.cell? ⟨w.heap.size, 0, none⟩ = some v0 ∧ w'.cell? ⟨w.heap.size, 1, none⟩ = some v1 ∧ w'.cell? ⟨w.heap.size, 2, none⟩ = some (.int .i64 t0) ∧ w'.cell? ⟨w.heap.size, 3, none⟩ = some (.int .i64 t1) ∧ w'.cell? ⟨w.heap.size, 4, none⟩ = some (.int .i64 t2) ∧ w'.cell? ⟨w.heap.size, 5, none⟩ = some (.int .i64 t3) := by
 have e : w'.heap[w.heap.size]? = some (.cells #[v0, v1, .int .i64 t0, .int .i64 t1, .int .i64 t2, .int .i64 t3] T (0, 0)) := (h.block _ (by omega)).trans (heap_alloc_last _ _)
 exact ⟨(cell_of_heap e).trans rfl, (cell_of_heap e).trans rfl, (cell_of_heap e).trans rfl, (cell_of_heap e).trans rfl, (cell_of_heap e).trans rfl, (cell_of_heap e).trans rfl⟩
theorem typ_no {d : FuncD} {k : Nat} (hk : k < d.blocks.length) (h : blkTB (typeF d) d.ret (d.blocks.getD k block0) = false) (a : Value) : a = outV (typB d) a := by
 have : typB d = false := all_no block0 d.blocks k hk (by rw [h]; decide)
 rw [this]; rfl
theorem cntB_le : ∀ (l : List BlockD) (b : BlockD), b ∈ l → cntB b ≤ cntL l
 | d :: r, b, h => by
  rcases List.mem_cons.1 h with rfl | h
  ·simp [cntL]
  ·have := cntB_le r b h; simp [cntL]; omega
set_option maxHeartbeats 4000000 in
theorem typI (lo : Nat) (d : FuncD) (u0 : Option Addr) (c0 : Nat) (u2 : Option Addr) (c2 : Nat) (a : Addr) (funcs : Int) (w : World) (hs : SmFunc d) (k0 : IntsAt w lo u0 d.params) (k2 : BlocksAt w lo u2 d.blocks) (hF : Form funcs d) (hv : Gv w 4 (errV a)) :
  Calls Tryz.prog 50 #[.agg #[.slice u0 d.params.length c0, .int .i64 d.ret, .slice u2 d.blocks.length c2]] w fun e w' => e = .returned (outV (typB d) (errV a)) ∧ Below w.heap.size w w' := by
 have hb1 := hF.b1
 have hb10 := hF.b10
 have hc60 := hF.c60
 have HS : Hid (SmFunc d) := hs
 have HF : Hid (Form funcs d) := hF
 have F0 := FBox.start (d := d) (u0 := u0) (u2 := u2) (c0 := c0) (c2 := c2) (w := w) (T := 36)
 have D := typesI lo d u0 c0 u2 c2 _ hs (k0.keep (agree_of_below F0.below lo)) (k2.keep (agree_of_below F0.below lo)) hc60
 clear hs hF k0
 go_enter Tryz.func50, Tryz.ntmps50
 go_wp2_with (go_at_call 82; refine D.mono ?_; rintro e w1 ⟨⟨N, rfl, hT⟩, hb1'⟩; have HT : Hid (IntsAt w1 (w.heap.size + 1) (some ⟨N, 0, none⟩) (tysF d)) := hT.low (by simp); have HF1 : Hid (FBox d u0 c0 u2 c2 w w1) := F0.keep hb1'; have a2 := HF1.out.a2; clear hb1' hT F0 D)
 go_loopw [17] (fun i wr => ∃ k : Nat, k ≤ d.blocks.length ∧ i = .int .i64 k ∧ Hid (∀ j, j < k → blkTB (typeF d) d.ret (d.blocks.getD j block0) = true) ∧ Hid (Below w1.heap.size w1 wr)) (fun i _ => d.blocks.length - (intOf i).toNat)
 case atStart => exact ⟨0, by omega, rfl, fun j hj => by omega, Below.refl _ _⟩
 case round =>
  obtain ⟨k, hk, rfl, HD, HW⟩ := hrel
  clear a2
  obtain ⟨wo, hwo⟩ : ∃ wo, wo = wr := ⟨_, rfl⟩
  subst hwo
  have HFo : Hid _ := HF1.out.keep HW.out
  by_cases hlt : k < d.blocks.length
  ·have a1 := HFo.out.a1
   have hW := HFo.out.below
   have hzo := HFo.out.size
   have HTo : Hid (IntsAt wo (w.heap.size + 1) (some ⟨N, 0, none⟩) (tysF d)) := HT.out.keep (agree_of_below HW.out _)
   rcases k2.2 with hn | ⟨b, off, rfl, hlo, hb, hcell⟩
   ·simp [hn] at hlt
   obtain ⟨⟨v0, q0, h0, m0⟩, ⟨v1, q1, h1, m1⟩, h2, h3, h4, h5⟩ := hcell k hlt
   have hfb := HF.out.at hlt
   have hsm := HS.out.2.2 _ (getD_mem block0 d.blocks k hlt)
   have HNO : Hid (blkTB (typeF d) d.ret (d.blocks.getD k block0) = false → errV a = outV (typB d) (errV a)) := fun h => typ_no hlt h _
   have HYS : Hid (blkTB (typeF d) d.ret (d.blocks.getD k block0) = true → ∀ j, j < k + 1 → blkTB (typeF d) d.ret (d.blocks.getD j block0) = true) := fun h j hj => by
    by_cases e : j = k
    ·subst e; exact h
    ·exact HD.out j (by omega)
   have HCB : Hid (cntB (d.blocks.getD k block0) ≤ cntL d.blocks) := cntB_le _ _ (getD_mem block0 d.blocks k hlt)
   generalize d.blocks.getD k block0 = x at h0 h1 h2 h3 h4 h5 m0 m1 hsm HNO HYS hfb HCB
   have HFB : Hid (FBlk (cntF d) d.blocks.length funcs x) := hfb
   have e0 : wo.cell? ⟨b, off + k * 6, none⟩ = some (.slice v0 x.phis.length q0) := (cell_block (hW.block b hb)).trans h0
   have e1 : wo.cell? ⟨b, off + k * 6 + 1, none⟩ = some (.slice v1 x.insts.length q1) := (cell_block (hW.block b hb)).trans h1
   have e2 : wo.cell? ⟨b, off + k * 6 + 2, none⟩ = some (.int .i64 x.term.kind) := (cell_block (hW.block b hb)).trans h2
   have e3 : wo.cell? ⟨b, off + k * 6 + 3, none⟩ = some (.int .i64 x.term.a) := (cell_block (hW.block b hb)).trans h3
   have e4 : wo.cell? ⟨b, off + k * 6 + 4, none⟩ = some (.int .i64 x.term.x) := (cell_block (hW.block b hb)).trans h4
   have e5 : wo.cell? ⟨b, off + k * 6 + 5, none⟩ = some (.int .i64 x.term.y) := (cell_block (hW.block b hb)).trans h5
   have M0 := m0.keep (agree_of_below hW lo)
   have M1 := m1.keep (agree_of_below hW lo)
   have s0 := hsm.1.1
   have s1 := hsm.2.1
   have SN : Hid (∀ p ∈ x.insts, SmInst p) := hsm.2.2
   have g0 := (hv.keep hW).cell
   have g1 := (hv.keep hW).lt
   unfold errV at g0
   have HWo : Hid (Below w.heap.size w wo) := hW
   clear hcell h0 h1 h2 h3 h4 h5 m0 m1 hsm hfb hW HD
   go_wp2_with fail
   clear e0 e1 e2 e3 e4 e5
   go_loopw [24] (fun i wr => ∃ j : Nat, j ≤ x.phis.length ∧ i = .int .i64 j ∧ Hid (∀ q, q < j → ((x.phis.getD q phi0).ins.all fun id => typeF d id == (x.phis.getD q phi0).w) = true) ∧ Hid (Below (wo.heap.size + 1) (wo.alloc (.cells #[.slice v0 x.phis.length q0, .slice v1 x.insts.length q1, .int .i64 x.term.kind, .int .i64 x.term.a, .int .i64 x.term.x, .int .i64 x.term.y] 43)) wr)) (fun i _ => x.phis.length - (intOf i).toNat)
   case atStart => exact ⟨0, by omega, rfl, fun q hq => by omega, Below.refl _ _⟩
   case round =>
    obtain ⟨j, hj, rfl, HJ, HB⟩ := hrel
    obtain ⟨wp, hwp⟩ : ∃ wp, wp = wr := ⟨_, rfl⟩
    subst hwp
    have hWj : Below wo.heap.size wo wp := below_box HB.out
    have hzp : wo.heap.size + 1 ≤ wp.heap.size := by have := HB.out.size; simp at this; omega
    by_cases hjl : j < x.phis.length
    ·rcases M0.2 with hn | ⟨pb, po, rfl, hplo, hpb, hpc⟩
     ·simp [hn] at hjl
     obtain ⟨hi0, ⟨iu, iq, hi1, im⟩⟩ := hpc j hjl
     have hil := im.1
     have HID : Hid (∀ id ∈ (x.phis.getD j phi0).ins, 0 ≤ id ∧ id < (cntF d : Int)) := HFB.out.phi _ (getD_mem phi0 x.phis j hjl)
     have hl10 := HFB.out.phl _ (getD_mem phi0 x.phis j hjl)
     have PNO : Hid (((x.phis.getD j phi0).ins.all fun id => typeF d id == (x.phis.getD j phi0).w) = false → blkTB (typeF d) d.ret x = false) := fun h => by
      have := all_no (f := fun p : PhiD => p.ins.all fun id => typeF d id == p.w) phi0 x.phis j hjl (by simp only [h]; decide)
      unfold blkTB; rw [this]; rfl
     have PYS : Hid (((x.phis.getD j phi0).ins.all fun id => typeF d id == (x.phis.getD j phi0).w) = true → ∀ q, q < j + 1 → ((x.phis.getD q phi0).ins.all fun id => typeF d id == (x.phis.getD q phi0).w) = true) := fun h q hq => by
      by_cases e : q = j
      ·subst e; exact h
      ·exact HJ.out q (by omega)
     generalize x.phis.getD j phi0 = p at hi0 hi1 im hil HID PNO PYS hl10
     have f0 : wp.cell? ⟨pb, po + j * 2, none⟩ = some (.int .i64 p.w) := (bcell hWj _ _ hpb).trans hi0
     have f1 : wp.cell? ⟨pb, po + j * 2 + 1, none⟩ = some (.slice iu p.ins.length iq) := (bcell hWj _ _ hpb).trans hi1
     have IM := (im.keep (agree_of_below hWj lo)).keep (agree_alloc wp (.cells #[.int .i64 p.w, .slice iu p.ins.length iq] 45) lo)
     have HTp : Hid (IntsAt wp (w.heap.size + 1) (some ⟨N, 0, none⟩) (tysF d)) := HTo.out.keep (agree_of_below hWj _)
     have gp := (bcell hWj _ _ g1).trans g0
     have gz : 4 < wp.heap.size := by omega
     clear hpc hi0 hi1 im M0 M1 HJ hWj a1
     go_wp2_with fail
     clear f0 f1
     go_loopw [31] (fun i wr => ∃ r : Nat, r ≤ p.ins.length ∧ i = .int .i64 r ∧ Hid (∀ q, q < r → (typeF d (p.ins.getD q 0) == p.w) = true) ∧ Hid (Below (wp.heap.size + 1) (wp.alloc (.cells #[.int .i64 p.w, .slice iu p.ins.length iq] 45)) wr)) (fun i _ => p.ins.length - (intOf i).toNat)
     case atStart => exact ⟨0, by omega, rfl, fun q hq => by omega, Below.refl _ _⟩
     case round =>
      obtain ⟨r, hr, rfl, HRR, HC⟩ := hrel
      obtain ⟨wq, hwq⟩ : ∃ wq, wq = wr := ⟨_, rfl⟩
      subst hwq
      have hC : Below wp.heap.size wp wq := below_box HC.out
      have hzq : wp.heap.size + 1 ≤ wq.heap.size := by have := HC.out.size; simp at this; omega
      by_cases hrl : r < p.ins.length
      ·obtain ⟨y0, y1⟩ := cells2 HC.out
       rcases IM.2 with hn | ⟨ib, io, rfl, hilo, hib, hic⟩
       ·simp [hn] at hrl
       have z0 : wq.cell? ⟨ib, io + r, none⟩ = some (.int .i64 (p.ins.getD r 0)) := (cell_block (HC.out.block ib (by simpa using hib))).trans (hic r hrl)
       have hid := HID.out _ (getD_mem 0 p.ins r hrl)
       have INO : Hid ((typeF d (p.ins.getD r 0) == p.w) = false → (p.ins.all fun id => typeF d id == p.w) = false) := fun h => all_no 0 p.ins r hrl (by simp only [h]; decide)
       have IYS : Hid ((typeF d (p.ins.getD r 0) == p.w) = true → ∀ q, q < r + 1 → (typeF d (p.ins.getD q 0) == p.w) = true) := fun h q hq => by
        by_cases e : q = r
        ·subst e; exact h
        ·exact HRR.out q (by omega)
       generalize p.ins.getD r 0 = id at z0 hid INO IYS
       obtain ⟨idn, rfl⟩ : ∃ n : Nat, id = n := ⟨id.toNat, by omega⟩
       have hidn : idn < cntF d := by omega
       rcases HTp.out.2 with hn | ⟨tb, tof, hte, htlo, htb, htc⟩
       ·have := tys_len d; simp [hn] at this; omega
       cases hte
       have z1 : wq.cell? ⟨N, 0 + idn, none⟩ = some (.int .i64 (typeF d idn)) := (cell_block (hC.block N htb)).trans ((htc idn (by rw [tys_len]; exact hidn)).trans (by rw [tys_at hidn]))
       simp only [Nat.zero_add] at z1
       have gq := (bcell hC _ _ gz).trans gp
       have gqz : 4 < wq.heap.size := by omega
       have hzN : N < wq.heap.size := Nat.lt_of_lt_of_le htb hC.size
       generalize typeF d (idn : Int) = tv at z1 INO IYS
       clear hic htc hid hC IM gp
       by_cases hq : tv = p.w
       ·have HQ : Hid (tv = p.w) := hq
        clear hq
        subst tv
        go_wp2_with fail
        go_quiet (fail)
        go_wp2_with fail
        go_roundw
        case rel => exact ⟨r + 1, by omega, by go_num, IYS.out (by simp), below_drewN HC.out _⟩
        case measure => simp [intOf]; omega
       ·have E : Hid (errV a = outV (typB d) (errV a)) := HNO.out (PNO.out (INO.out (by simp [hq])))
        go_wp2_with fail
        go_quiet (fail)
        go_wp2_with fail
        go_ret
        exact ⟨ret_out E.out, HWo.out.trans ((below_box (HB.out.trans ((below_box (below_drewN HC.out _)).mono hzp))).mono HWo.out.size)⟩
      ·have YES : Hid ((p.ins.all fun id => typeF d id == p.w) = true) := all_yes 0 p.ins (fun q hq => HRR.out q (by omega))
       have hq2 : Below wo.heap.size wo wq := (below_box HB.out).trans (hC.mono (by omega))
       clear hC IM gp
       go_wp2_with fail
       go_roundw
       case rel => exact ⟨j + 1, by omega, by go_num, PYS.out YES.out, HB.out.trans ((below_box HC.out).mono hzp)⟩
       case measure => simp [intOf]; omega
    ·have YES : Hid ((x.phis.all fun p => p.ins.all fun id => typeF d id == p.w) = true) := all_yes phi0 x.phis (fun q hq => HJ.out q (by omega))
     obtain ⟨x0, x1, x2, x3, x4, x5⟩ := cells6c HB.out
     clear hWj M0 HJ
     go_wp2_with fail
     clear x0 x1 x2 x3 x4 x5
     go_loopw [48] (fun i wr => ∃ j : Nat, j ≤ x.insts.length ∧ i = .int .i64 j ∧ Hid (∀ q, q < j → argB (typeF d) (x.insts.getD q inst0) = true) ∧ Hid (Below (wo.heap.size + 1) (wo.alloc (.cells #[.slice v0 x.phis.length q0, .slice v1 x.insts.length q1, .int .i64 x.term.kind, .int .i64 x.term.a, .int .i64 x.term.x, .int .i64 x.term.y] 43)) wr)) (fun i _ => x.insts.length - (intOf i).toNat)
     case atStart => exact ⟨0, by omega, rfl, fun q hq => by omega, HB.out⟩
     case round =>
      obtain ⟨j, hj, rfl, HJ, HC⟩ := hrel
      obtain ⟨wq, hwq⟩ : ∃ wq, wq = wr := ⟨_, rfl⟩
      subst hwq
      clear HB hzp
      have hWj : Below wo.heap.size wo wq := below_box HC.out
      have hzq : wo.heap.size + 1 ≤ wq.heap.size := by have := HC.out.size; simp at this; omega
      have HTq : Hid (IntsAt wq (w.heap.size + 1) (some ⟨N, 0, none⟩) (tysF d)) := HTo.out.keep (agree_of_below hWj _)
      have gq := (bcell hWj _ _ g1).trans g0
      have gqz : 4 < wq.heap.size := by omega
      by_cases hjl : j < x.insts.length
      ·rcases M1.2 with hn | ⟨pb, po, rfl, hplo, hpb, hpc⟩
       ·simp [hn] at hjl
       obtain ⟨i0, i1, i2, i3, i4, i5, ⟨iu, iq, i6, im⟩⟩ := hpc j hjl
       have HOPS : Hid (∀ id ∈ opsD (x.insts.getD j inst0), 0 ≤ id ∧ id < (cntF d : Int)) := HFB.out.ops _ (getD_mem inst0 x.insts j hjl)
       have INO : Hid (argB (typeF d) (x.insts.getD j inst0) = false → blkTB (typeF d) d.ret x = false) := fun h => by
        have := all_no (f := argB (typeF d)) inst0 x.insts j hjl (by rw [h]; decide)
        unfold blkTB; rw [this]; simp
       have IYS : Hid (argB (typeF d) (x.insts.getD j inst0) = true → ∀ q, q < j + 1 → argB (typeF d) (x.insts.getD q inst0) = true) := fun h q hq => by
        by_cases e : q = j
        ·subst e; exact h
        ·exact HJ.out q (by omega)
       generalize x.insts.getD j inst0 = p at i0 i1 i2 i3 i4 i5 i6 im HOPS INO IYS
       have f0 : wq.cell? ⟨pb, po + j * 7, none⟩ = some (.int .i64 p.op) := (bcell hWj _ _ hpb).trans i0
       have f1 : wq.cell? ⟨pb, po + j * 7 + 1, none⟩ = some (.int .i64 p.w) := (bcell hWj _ _ hpb).trans i1
       have f2 : wq.cell? ⟨pb, po + j * 7 + 2, none⟩ = some (.int .i64 p.a) := (bcell hWj _ _ hpb).trans i2
       have f3 : wq.cell? ⟨pb, po + j * 7 + 3, none⟩ = some (.int .i64 p.b) := (bcell hWj _ _ hpb).trans i3
       have f4 : wq.cell? ⟨pb, po + j * 7 + 4, none⟩ = some (.int .i64 p.c) := (bcell hWj _ _ hpb).trans i4
       have f5 : wq.cell? ⟨pb, po + j * 7 + 5, none⟩ = some (.int .i64 p.imm) := (bcell hWj _ _ hpb).trans i5
       have f6 : wq.cell? ⟨pb, po + j * 7 + 6, none⟩ = some (.slice iu p.args.length iq) := (bcell hWj _ _ hpb).trans i6
       have hcf : argB (fun i => (tysF d).getD i.toNat 0) p = argB (typeF d) p := argB_congr (fun id hid => tyL_at (HOPS.out id hid))
       have DD := oprI (w.heap.size + 1) (tysF d) (some ⟨N, 0, none⟩) (cntF d) p iu iq (wq.alloc (.cells #[.int .i64 p.op, .int .i64 p.w, .int .i64 p.a, .int .i64 p.b, .int .i64 p.c, .int .i64 p.imm, .slice iu p.args.length iq] 54)) (by rw [tys_len]; omega) (HTq.out.keep (agree_alloc _ _ _)) (fun id hid => by rw [tys_len]; exact HOPS.out id hid) (by rw [tys_len]; have := HCB.out; unfold cntB at this; unfold cntF; omega)
       rw [tys_len, hcf] at DD
       clear hpc i0 i1 i2 i3 i4 i5 i6 im hWj M1 HTq hcf HJ a1
       generalize hbv : argB (typeF d) p = bv at DD
       have HBV : Hid (argB (typeF d) p = bv) := hbv
       clear hbv
       cases bv with
       | true =>
        go_wp2_with (go_at_call 84; refine DD.mono ?_; rintro e w5 ⟨rfl, hb5⟩)
        go_roundw
        case rel => exact ⟨j + 1, by omega, by go_num, IYS.out HBV.out, (HC.out.alloc hzq _).trans (hb5.mono (by simp; omega))⟩
        case measure => simp [intOf]; omega
       | false =>
        have E : Hid (errV a = outV (typB d) (errV a)) := HNO.out (INO.out HBV.out)
        go_wp2_with (go_at_call 84; refine DD.mono ?_; rintro e w5 ⟨rfl, hb5⟩; have g5 := (bcell hb5 4 0 (by simp; omega)).trans (cell_new gqz gq))
        go_ret
        exact ⟨ret_out E.out, HWo.out.trans ((below_box ((HC.out.alloc hzq _).trans (hb5.mono (by simp; omega)))).mono HWo.out.size)⟩
      ·have YES2 : Hid (x.insts.all (argB (typeF d)) = true) := all_yes inst0 x.insts (fun q hq => HJ.out q (by omega))
       obtain ⟨x0, x1, x2, x3, x4, x5⟩ := cells6c HC.out
       have a1' := (bcell hWj _ _ (by omega)).trans a1
       have hcf : trmB (fun i => (tysF d).getD i.toNat 0) x.term d.ret = trmB (typeF d) x.term d.ret := by
        unfold trmB
        by_cases e1 : x.term.kind = 1
        ·rw [if_pos e1, if_pos e1]; show (tyL d x.term.a == d.ret) = _; rw [tyL_at (Form.term_a HFB.out (.inl e1))]
        ·rw [if_neg e1, if_neg e1]
         by_cases e3 : x.term.kind = 3
         ·rw [if_pos e3, if_pos e3]; show (tyL d x.term.a == 1) = _; rw [tyL_at (Form.term_a HFB.out (.inr e3))]
         ·rw [if_neg e3, if_neg e3]
       have DD := trmI (w.heap.size + 1) (tysF d) (some ⟨N, 0, none⟩) (cntF d) x.term d.ret wq HTq.out (fun h => by rw [tys_len]; exact Form.term_a HFB.out h)
       rw [tys_len, hcf] at DD
       generalize hbv : trmB (typeF d) x.term d.ret = bv at DD
       have HBV : Hid (trmB (typeF d) x.term d.ret = bv) := hbv
       clear hbv hcf HJ M1 hWj HTq a1
       cases bv with
       | true =>
        have YS : Hid (blkTB (typeF d) d.ret x = true) := by show _ = _; unfold blkTB; rw [YES.out, YES2.out, HBV.out]; rfl
        go_wp2_with (go_at_call 85; refine DD.mono ?_; rintro e w5 ⟨rfl, hb5⟩)
        go_roundw
        case rel => exact ⟨k + 1, by omega, by go_num, HYS.out YS.out, HW.out.trans ((below_box (HC.out.trans (hb5.mono hzq))).mono HW.out.size)⟩
        case measure => simp [intOf]; omega
       | false =>
        have E : Hid (errV a = outV (typB d) (errV a)) := HNO.out (by unfold blkTB; rw [HBV.out]; simp)
        go_wp2_with (go_at_call 85; refine DD.mono ?_; rintro e w5 ⟨rfl, hb5⟩; have g5 := (bcell hb5 4 0 gqz).trans gq)
        go_ret
        exact ⟨ret_out E.out, HWo.out.trans ((below_box (HC.out.trans (hb5.mono hzq))).mono HWo.out.size)⟩
  ·have E : Hid (.nilIface = outV (typB d) (errV a)) := by
    have : typB d = true := all_yes block0 d.blocks (fun q hq => HD.out q (by omega))
    show _ = _
    rw [this]; rfl
   go_wp2_with fail
   go_ret
   exact ⟨ret_out E.out, HFo.out.below⟩
end Go.Proofs.YtgojlnclpebdcaaGreatDoor
