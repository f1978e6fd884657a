import Derived.Test.YtgojlnclpebdcaaGreatDoorFmE3R
import Derived.Test.YtgojlnclpebdcaaGreatDoorChFR
import Derived.Deep.RegionHeld2
import Derived.Test.YtgojlnclpebdcaaGreatDoorChQR
import Derived.Test.YtgojlnclpebdcaaGreatDoorChNR
import Derived.Test.YtgojlnclpebdcaaGreatDoorFmHR
namespace Go.Proofs.YtgojlnclpebdcaaGreatDoor
open Go.RowKit
set_option linter.unusedVariables false
set_option maxHeartbeats 2000000 in
set_option maxRecDepth 100000 in
theorem funcShS_p (lo : Nat) (d : FuncD) (u0 : Option Addr) (c0 : Nat) (u2 : Option Addr) (c2 : Nat) (funcs : Int) (w : World) (hs : SmFunc d) (k0 : IntsAt w lo u0 d.params) (k2 : BlocksAt w lo u2 d.blocks) (hp : ¬ d.params.length ≤ 4) : Calls Tryz.prog 34 #[.agg #[.slice u0 d.params.length c0, .int .i64 d.ret, .slice u2 d.blocks.length c2], .int .i64 funcs] w fun e w' => e = .returned (.bool (funcB funcs d)) ∧ Below w.heap.size w w' := by
 have HR : Hid (false = funcB funcs d) := by show _ = _; simp [funcB, hp]
 have F0 := FBox.start (d := d) (u0 := u0) (u2 := u2) (c0 := c0) (c2 := c2) (w := w) (T := 36)
 have hbl := hs.2.1
 have i1 : (4 : Int) < d.params.length := by omega
 go_enter Tryz.func34, Tryz.ntmps34
 go_wp2_with fail
 refine (countS_any lo d u0 c0 u2 c2 _ hs (k2.keep (agree_of_below F0.below lo))).mono ?_
 rintro e w1 ⟨rfl, hb1'⟩
 have F1 := F0.keep hb1'
 have b0 := F1.a0
 have b1 := F1.a1
 have b2 := F1.a2
 clear hb1' F0
 go_wp2_with fail
 go_ret
 exact ⟨ret_bool HR.out, F1.below⟩
set_option maxHeartbeats 2000000 in
set_option maxRecDepth 100000 in
theorem funcShS_r (lo : Nat) (d : FuncD) (u0 : Option Addr) (c0 : Nat) (u2 : Option Addr) (c2 : Nat) (funcs : Int) (w : World) (hs : SmFunc d) (k0 : IntsAt w lo u0 d.params) (k2 : BlocksAt w lo u2 d.blocks) (hp : d.params.length ≤ 4) (hr : widthB d.ret = false) : Calls Tryz.prog 34 #[.agg #[.slice u0 d.params.length c0, .int .i64 d.ret, .slice u2 d.blocks.length c2], .int .i64 funcs] w fun e w' => e = .returned (.bool (funcB funcs d)) ∧ Below w.heap.size w w' := by
 have HR : Hid (false = funcB funcs d) := by show _ = _; simp [funcB, hr]
 have F0 := FBox.start (d := d) (u0 := u0) (u2 := u2) (c0 := c0) (c2 := c2) (w := w) (T := 36)
 have hbl := hs.2.1
 have i1 : ¬ (4 : Int) < d.params.length := by omega
 go_enter Tryz.func34, Tryz.ntmps34
 go_wp2_with fail
 refine (countS_any lo d u0 c0 u2 c2 _ hs (k2.keep (agree_of_below F0.below lo))).mono ?_
 rintro e w1 ⟨rfl, hb1'⟩
 have F1 := F0.keep hb1'
 have b0 := F1.a0
 have b1 := F1.a1
 have b2 := F1.a2
 clear hb1' F0
 go_wp2_with (first | (go_at_call 64; refine (widthS _ _).mono ?_; rintro e w' ⟨rfl, rfl⟩))
 go_ret
 exact ⟨ret_bool HR.out, F1.below⟩
set_option maxHeartbeats 2000000 in
set_option maxRecDepth 100000 in
theorem funcShS_b (lo : Nat) (d : FuncD) (u0 : Option Addr) (c0 : Nat) (u2 : Option Addr) (c2 : Nat) (funcs : Int) (w : World) (hs : SmFunc d) (k0 : IntsAt w lo u0 d.params) (k2 : BlocksAt w lo u2 d.blocks) (hp : d.params.length ≤ 4) (hr : widthB d.ret = true) (hb : ¬ (1 ≤ d.blocks.length ∧ d.blocks.length ≤ 10)) : Calls Tryz.prog 34 #[.agg #[.slice u0 d.params.length c0, .int .i64 d.ret, .slice u2 d.blocks.length c2], .int .i64 funcs] w fun e w' => e = .returned (.bool (funcB funcs d)) ∧ Below w.heap.size w w' := by
 have HR : Hid (false = funcB funcs d) := by show _ = _; (by_cases q : 1 ≤ d.blocks.length <;> by_cases q2 : d.blocks.length ≤ 10 <;> simp [funcB, q, q2] <;> omega)
 have F0 := FBox.start (d := d) (u0 := u0) (u2 := u2) (c0 := c0) (c2 := c2) (w := w) (T := 36)
 have hbl := hs.2.1
 have i1 : ¬ (4 : Int) < d.params.length := by omega
 have i2 : (decide (1 ≤ (d.blocks.length : Int)) && decide ((d.blocks.length : Int) ≤ 10)) = false := by simp; omega
 go_enter Tryz.func34, Tryz.ntmps34
 go_wp2_with fail
 refine (countS_any lo d u0 c0 u2 c2 _ hs (k2.keep (agree_of_below F0.below lo))).mono ?_
 rintro e w1 ⟨rfl, hb1'⟩
 have F1 := F0.keep hb1'
 have b0 := F1.a0
 have b1 := F1.a1
 have b2 := F1.a2
 clear hb1' F0
 go_wp2_with (first | (go_at_call 64; refine (widthS _ _).mono ?_; rintro e w' ⟨rfl, rfl⟩) | (go_at_call 32; refine (inS _ _ _ _).mono ?_; rw [i2]; rintro e w' ⟨rfl, rfl⟩))
 go_ret
 exact ⟨ret_bool HR.out, F1.below⟩
set_option maxHeartbeats 2000000 in
set_option maxRecDepth 100000 in
theorem funcShS_n (lo : Nat) (d : FuncD) (u0 : Option Addr) (c0 : Nat) (u2 : Option Addr) (c2 : Nat) (funcs : Int) (w : World) (hs : SmFunc d) (k0 : IntsAt w lo u0 d.params) (k2 : BlocksAt w lo u2 d.blocks) (hp : d.params.length ≤ 4) (hr : widthB d.ret = true) (hb : (1 ≤ d.blocks.length ∧ d.blocks.length ≤ 10)) (hn : ¬ cntF d ≤ 60) : Calls Tryz.prog 34 #[.agg #[.slice u0 d.params.length c0, .int .i64 d.ret, .slice u2 d.blocks.length c2], .int .i64 funcs] w fun e w' => e = .returned (.bool (funcB funcs d)) ∧ Below w.heap.size w w' := by
 have HR : Hid (false = funcB funcs d) := by show _ = _; simp [funcB, hn]
 have F0 := FBox.start (d := d) (u0 := u0) (u2 := u2) (c0 := c0) (c2 := c2) (w := w) (T := 36)
 have hbl := hs.2.1
 have i1 : ¬ (4 : Int) < d.params.length := by omega
 have i2 : (decide (1 ≤ (d.blocks.length : Int)) && decide ((d.blocks.length : Int) ≤ 10)) = true := by simp; omega
 have i4 : (60 : Int) < cntF d := by omega
 go_enter Tryz.func34, Tryz.ntmps34
 go_wp2_with fail
 refine (countS_any lo d u0 c0 u2 c2 _ hs (k2.keep (agree_of_below F0.below lo))).mono ?_
 rintro e w1 ⟨rfl, hb1'⟩
 have F1 := F0.keep hb1'
 have b0 := F1.a0
 have b1 := F1.a1
 have b2 := F1.a2
 clear hb1' F0
 go_wp2_with (first | (go_at_call 64; refine (widthS _ _).mono ?_; rintro e w' ⟨rfl, rfl⟩) | (go_at_call 32; refine (inS _ _ _ _).mono ?_; rw [i2]; rintro e w' ⟨rfl, rfl⟩))
 go_ret
 exact ⟨ret_bool HR.out, F1.below⟩
theorem funcShS (lo : Nat) (d : FuncD) (u0 : Option Addr) (c0 : Nat) (u2 : Option Addr) (c2 : Nat) (funcs : Int) (w : World) (hs : SmFunc d) (k0 : IntsAt w lo u0 d.params) (k2 : BlocksAt w lo u2 d.blocks) (g2 : 0 ≤ funcs) (g3 : funcs ≤ 4611686018427387904) : Calls Tryz.prog 34 #[.agg #[.slice u0 d.params.length c0, .int .i64 d.ret, .slice u2 d.blocks.length c2], .int .i64 funcs] w fun e w' => e = .returned (.bool (funcB funcs d)) ∧ Below w.heap.size w w' := by
 by_cases hp : d.params.length ≤ 4
 ·cases hr : widthB d.ret with
  | false => exact funcShS_r lo d u0 c0 u2 c2 funcs w hs k0 k2 hp hr
  | true =>
   by_cases hb : 1 ≤ d.blocks.length ∧ d.blocks.length ≤ 10
   ·by_cases hn : cntF d ≤ 60
    ·exact funcShS_ok lo d u0 c0 u2 c2 funcs w hs k0 k2 g2 g3 hp hr hb.1 hb.2 hn
    ·exact funcShS_n lo d u0 c0 u2 c2 funcs w hs k0 k2 hp hr hb hn
   ·exact funcShS_b lo d u0 c0 u2 c2 funcs w hs k0 k2 hp hr hb
 ·exact funcShS_p lo d u0 c0 u2 c2 funcs w hs k0 k2 hp
set_option maxHeartbeats 2000000 in
set_option maxRecDepth 100000 in
theorem modShS (lo : Nat) (l : List FuncD) (u0 : Option Addr) (c0 : Nat) (w : World) (hs : SmMod l) (k0 : FuncsAt w lo u0 l) :
  Calls Tryz.prog 13 #[.agg #[.slice u0 l.length c0]] w fun e w' => e = .returned (.bool (modB l)) ∧ Below w.heap.size w w' := by
 have hsl := hs.1
 have HS : Hid (∀ d ∈ l, SmFunc d) := hs.2
 by_cases h1 : 1 ≤ l.length ∧ l.length ≤ 3
 ·have HE : Hid (modB l = l.all (funcB l.length)) := by show _ = _; simp [modB, h1.1, h1.2]
  have i1 : (decide (1 ≤ (l.length : Int)) && decide ((l.length : Int) ≤ 3)) = true := by simp; omega
  clear hs
  go_enter Tryz.func13, Tryz.ntmps13
  go_wp2_with (go_at_call 32; refine (inS _ _ _ _).mono ?_; rw [i1]; rintro e w' ⟨rfl, rfl⟩)
  go_loopw [3] (fun i wr => ∃ j : Nat, j ≤ l.length ∧ i = .int .i64 j ∧ Hid (∀ k, k < j → funcB l.length (l.getD k func0) = true) ∧ Below (w.heap.size + 1) (w.alloc (.cells #[.slice u0 l.length c0] 26)) wr) (fun i _ => l.length - (intOf i).toNat)
  case atStart => exact ⟨0, by omega, rfl, fun k hk => by omega, Below.refl _ _⟩
  case round =>
   obtain ⟨j, hj, rfl, HD, hB⟩ := hrel
   obtain ⟨wp, hwp⟩ : ∃ wp, wp = wr := ⟨_, rfl⟩
   subst hwp
   have hW : Below w.heap.size w wp := below_box hB
   have y0 : wp.cell? ⟨w.heap.size, 0, none⟩ = some (.slice u0 l.length c0) := (cell_block (hB.block w.heap.size (by omega))).trans ((cell_of_heap (heap_alloc_last _ _)).trans rfl)
   have hzw : w.heap.size + 1 ≤ wp.heap.size := by have := hB.size; simp at this; omega
   by_cases hjl : j < l.length
   ·rcases k0.2 with hn | ⟨bb, off, rfl, hlo, hbb, hcell⟩
    ·simp [hn] at hjl
    obtain ⟨⟨p0, q0, h0, m0⟩, h1', ⟨p2, q2, h2, m2⟩⟩ := hcell j hjl
    have hsm := HS.out _ (getD_mem func0 l j hjl)
    generalize hx : l.getD j func0 = x at h0 h1' h2 m0 m2 hsm
    have HX : Hid (l.getD j func0 = x) := hx
    have f0 : wp.cell? ⟨bb, off + j * 3, none⟩ = some (.slice p0 x.params.length q0) := (cell_block (hW.block bb hbb)).trans h0
    have f1 : wp.cell? ⟨bb, off + j * 3 + 1, none⟩ = some (.int .i64 x.ret) := (cell_block (hW.block bb hbb)).trans h1'
    have f2 : wp.cell? ⟨bb, off + j * 3 + 2, none⟩ = some (.slice p2 x.blocks.length q2) := (cell_block (hW.block bb hbb)).trans h2
    have M0 := (m0.keep (agree_of_below hW lo)).keep (agree_of_below (Below.refl wp.heap.size wp).drew lo)
    have M2 := (m2.keep (agree_of_below hW lo)).keep (agree_of_below (Below.refl wp.heap.size wp).drew lo)
    have y0d : wp.drew.cell? ⟨w.heap.size, 0, none⟩ = some (.slice (some ⟨bb, off, none⟩) l.length c0) := y0
    have f0d : wp.drew.cell? ⟨bb, off + j * 3, none⟩ = some (.slice p0 x.params.length q0) := f0
    have f1d : wp.drew.cell? ⟨bb, off + j * 3 + 1, none⟩ = some (.int .i64 x.ret) := f1
    have f2d : wp.drew.cell? ⟨bb, off + j * 3 + 2, none⟩ = some (.slice p2 x.blocks.length q2) := f2
    have hz1 : w.heap.size < wp.heap.size := by omega
    have hz2 : bb < wp.heap.size := Nat.lt_of_lt_of_le hbb hW.size
    have HBA : Hid (Below (w.heap.size + 1) (w.alloc (.cells #[.slice (some ⟨bb, off, none⟩) l.length c0] 26)) wp) := hB
    have B : ∀ B, funcB l.length x = B → ∀ wz : World, wz = wp.drew → Calls Tryz.prog 34 #[.agg #[.slice p0 x.params.length q0, .int .i64 x.ret, .slice p2 x.blocks.length q2], .int .i64 l.length] wz fun e w' => e = .returned (.bool B) ∧ Below wz.heap.size wz w' := fun B h wz e => by
     subst e; rw [← h]; exact funcShS lo x p0 q0 p2 q2 l.length _ hsm M0 M2 (by omega) (by omega)
    have NO : Hid (funcB l.length x = false → false = modB l) := fun h => by
     rw [HE.out]; exact (all_no func0 l j hjl (by rw [HX.out, h]; decide)).symm
    have YES : Hid (funcB l.length x = true → ∀ k, k < j + 1 → funcB l.length (l.getD k func0) = true) := fun h k hk => by
     by_cases e : k = j
     ·subst e; rw [HX.out]; exact h
     ·exact HD.out k (by omega)
    clear hcell h0 h1' h2 m0 m2 hsm hx hB M0 M2 HD k0 hW
    cases hb : funcB l.length x with
    | false =>
     have HF : Hid (false = modB l) := NO.out hb
     have BB := B _ hb
     clear B
     go_wp2_with fail
     go_region_held2 (fun w' => w'.cell? ⟨w.heap.size, 0, none⟩ = some (.slice (some ⟨bb, off, none⟩) l.length c0) ∧ w'.cell? ⟨bb, off + j * 3, none⟩ = some (.slice p0 x.params.length q0) ∧ w'.cell? ⟨bb, off + j * 3 + 1, none⟩ = some (.int .i64 x.ret) ∧ w'.cell? ⟨bb, off + j * 3 + 2, none⟩ = some (.slice p2 x.blocks.length q2)) (first | with_reducible exact ⟨y0d, f0d, f1d, f2d⟩ | with_reducible exact ⟨d0, d1, d2, d3⟩) ((go_at_call 34; refine (BB wp.drew rfl).mono ?_; rintro e w3 ⟨rfl, hb3⟩; have d0 := (cell_block (hb3.block w.heap.size (by exact hz1))).trans y0d; have d1 := (cell_block (hb3.block bb (by exact hz2))).trans f0d; have d2 := (cell_block (hb3.block bb (by exact hz2))).trans f1d; have d3 := (cell_block (hb3.block bb (by exact hz2))).trans f2d))
     all_goals
      have hb4 := drop_drew hb3
      clear d0 d1 d2 d3
      go_wp2_with fail
      go_ret
      exact ⟨ret_bool HF.out, below_box (HBA.out.trans (hb4.mono hzw))⟩
    | true =>
     have HF : Hid (funcB l.length x = true) := hb
     have BB := B _ hb
     clear B
     go_wp2_with fail
     go_region_held2 (fun w' => w'.cell? ⟨w.heap.size, 0, none⟩ = some (.slice (some ⟨bb, off, none⟩) l.length c0) ∧ w'.cell? ⟨bb, off + j * 3, none⟩ = some (.slice p0 x.params.length q0) ∧ w'.cell? ⟨bb, off + j * 3 + 1, none⟩ = some (.int .i64 x.ret) ∧ w'.cell? ⟨bb, off + j * 3 + 2, none⟩ = some (.slice p2 x.blocks.length q2)) (first | with_reducible exact ⟨y0d, f0d, f1d, f2d⟩ | with_reducible exact ⟨d0, d1, d2, d3⟩) ((go_at_call 34; refine (BB wp.drew rfl).mono ?_; rintro e w3 ⟨rfl, hb3⟩; have d0 := (cell_block (hb3.block w.heap.size (by exact hz1))).trans y0d; have d1 := (cell_block (hb3.block bb (by exact hz2))).trans f0d; have d2 := (cell_block (hb3.block bb (by exact hz2))).trans f1d; have d3 := (cell_block (hb3.block bb (by exact hz2))).trans f2d))
     all_goals
      have hb4 := drop_drew hb3
      clear d0 d1 d2 d3
      go_wp2_with fail
      go_roundw
      case rel => exact ⟨j + 1, by omega, by go_num, YES.out HF.out, HBA.out.trans (hb4.mono hzw)⟩
      case measure => simp [intOf]; omega
   ·have HF : Hid (true = modB l) := by
     show _ = _
     rw [HE.out]; exact (all_yes func0 l (fun k hk => HD.out k (by omega))).symm
    go_wp2_with fail
    go_ret
    exact ⟨ret_bool HF.out, hW⟩
 ·have HR : Hid (false = modB l) := by show _ = _; (by_cases q : 1 ≤ l.length <;> by_cases q2 : l.length ≤ 3 <;> simp [modB, q, q2] <;> omega)
  have i1 : (decide (1 ≤ (l.length : Int)) && decide ((l.length : Int) ≤ 3)) = false := by simp; omega
  clear hs
  go_enter Tryz.func13, Tryz.ntmps13
  go_wp2_with (go_at_call 32; refine (inS _ _ _ _).mono ?_; rw [i1]; rintro e w' ⟨rfl, rfl⟩)
  go_ret
  exact ⟨ret_bool HR.out, (Below.refl _ _).alloc (Nat.le_refl _) _⟩
end Go.Proofs.YtgojlnclpebdcaaGreatDoor
namespace Go.Proofs.YtgojlnclpebdcaaGreatDoor
open Go.RowKit
set_option linter.unusedVariables false
set_option linter.unusedSimpArgs false
theorem code_some (l : List FuncD) (d : FuncD) : ∃ c, CodeF l d c := by
 unfold CodeF
 cases h1 : entB d with
 | false => exact ⟨2, .inl ⟨rfl, rfl⟩⟩
 | true =>
  cases h2 : phsB d with
  | false => exact ⟨3, .inr (.inl ⟨rfl, rfl, rfl⟩)⟩
  | true =>
   cases h3 : typB d with
   | false => exact ⟨4, .inr (.inr (.inl ⟨rfl, rfl, rfl, rfl⟩))⟩
   | true =>
    cases h4 : clsB l d with
    | false => exact ⟨5, .inr (.inr (.inr (.inl ⟨rfl, rfl, rfl, rfl, rfl⟩)))⟩
    | true =>
     by_cases h5 : DomsP d
     ·exact ⟨0, .inr (.inr (.inr (.inr (.inr ⟨rfl, rfl, rfl, rfl, h5, rfl⟩))))⟩
     ·exact ⟨6, .inr (.inr (.inr (.inr (.inl ⟨rfl, rfl, rfl, rfl, h5, rfl⟩))))⟩
def FCode (l : List FuncD) (k c : Int) : Prop := (¬ (modB l = true ∧ 0 ≤ k ∧ k < l.length) ∧ c = 1) ∨ ((modB l = true ∧ 0 ≤ k ∧ k < l.length) ∧ CodeF l (l.getD k.toNat func0) c)
theorem fcode_some (l : List FuncD) (k : Int) : ∃ c, FCode l k c := by
 by_cases h : modB l = true ∧ 0 ≤ k ∧ k < l.length
 ·obtain ⟨c, hc⟩ := code_some l (l.getD k.toNat func0)
  exact ⟨c, .inr ⟨h, hc⟩⟩
 ·exact ⟨1, .inl ⟨h, rfl⟩⟩
theorem FCode.one {l : List FuncD} {k c c' : Int} (h : FCode l k c) (h' : FCode l k c') : c = c' := by
 rcases h with h | h <;> rcases h' with h' | h'
 ·rw [h.2, h'.2]
 ·exact absurd h'.1 h.1
 ·exact absurd h.1 h'.1
 ·exact h.2.one h'.2
def MCode (l : List FuncD) (c : Int) : Prop := (modB l = false ∧ c = 1) ∨ (modB l = true ∧ ((c = 0 ∧ ∀ k, k < l.length → CodeF l (l.getD k func0) 0) ∨ ∃ k, k < l.length ∧ c ≠ 0 ∧ CodeF l (l.getD k func0) c ∧ ∀ j, j < k → CodeF l (l.getD j func0) 0))
theorem MCode.one {l : List FuncD} {c c' : Int} (h : MCode l c) (h' : MCode l c') : c = c' := by
 rcases h with h | h <;> rcases h' with h' | h'
 ·rw [h.2, h'.2]
 ·rw [h.1] at h'; cases h'.1
 ·rw [h'.1] at h; cases h.1
 ·rcases h.2 with h | ⟨k, h1, h2, h3, h4⟩ <;> rcases h'.2 with h' | ⟨k', h1', h2', h3', h4'⟩
  ·rw [h.1, h'.1]
  ·exact absurd (h3'.one (h.2 k' h1')) h2'
  ·exact absurd (h3.one (h'.2 k h1)) h2
  ·rcases Nat.lt_trichotomy k k' with e | e | e
   ·exact absurd (h3.one (h4' k e)) h2
   ·subst e; exact h3.one h3'
   ·exact absurd (h3'.one (h4 k' e)) h2'
theorem mod_form {l : List FuncD} (h : modB l = true) {k : Nat} (hk : k < l.length) : Form l.length (l.getD k func0) := by
 simp only [modB, Bool.and_eq_true, decide_eq_true_eq, List.all_eq_true] at h
 exact form_of (h.2 _ (getD_mem func0 l k hk))
theorem mod_len {l : List FuncD} (h : modB l = true) : 1 ≤ l.length ∧ l.length ≤ 3 := by
 simp only [modB, Bool.and_eq_true, decide_eq_true_eq] at h
 exact h.1
set_option maxHeartbeats 8000000 in
set_option maxRecDepth 100000 in
theorem codeS (lo : Nat) (l : List FuncD) (d : FuncD) (pm : Option Addr) (cm : Nat) (p0 : Option Addr) (c0 : Nat) (p2 : Option Addr) (c2 : Nat) (c : Int) (w : World) (hsl : SmMod l) (hs : SmFunc d) (kM : FuncsAt w lo pm l) (k0 : IntsAt w lo p0 d.params) (k2 : BlocksAt w lo p2 d.blocks) (hF : Form l.length d) (hc : CodeF l d c) :
  Calls Tryz.prog 31 #[.agg #[.slice pm l.length cm], .agg #[.slice p0 d.params.length c0, .int .i64 d.ret, .slice p2 d.blocks.length c2]] w fun e w' => e = .returned (.int .i64 c) ∧ Below w.heap.size w w' := by
 have hb1 := hF.b1
 have hb10 := hF.b10
 have HK0 : Hid (IntsAt w lo p0 d.params) := k0
 have HK2 : Hid (BlocksAt w lo p2 d.blocks) := k2
 have HKM : Hid (FuncsAt w lo pm l) := kM
 have hB0 : Below w.heap.size w ((w.alloc (.cells #[.slice pm l.length cm] 26)).alloc (.cells #[.slice p0 d.params.length c0, .int .i64 d.ret, .slice p2 d.blocks.length c2] 36)) := ((Below.refl _ _).alloc (Nat.le_refl _) _).alloc (by simp) _
 have DP := fun (W : World) (hW : Below w.heap.size w W) => l3predsS lo d p0 c0 p2 c2 0 W hF.right (HK2.out.keep (agree_of_below hW lo))
 have DPh := fun (W : World) (hW : Below w.heap.size w W) => phsS lo d p0 c0 p2 c2 W hs (HK2.out.keep (agree_of_below hW lo)) hF.right
 have DT := fun (W : World) (hW : Below w.heap.size w W) => typS lo d p0 c0 p2 c2 l.length W hs (HK0.out.keep (agree_of_below hW lo)) (HK2.out.keep (agree_of_below hW lo)) hF
 have DC := fun (W : World) (hW : Below w.heap.size w W) => clsS lo l d pm cm p0 c0 p2 c2 W hsl hs (HKM.out.keep (agree_of_below hW lo)) (HK0.out.keep (agree_of_below hW lo)) (HK2.out.keep (agree_of_below hW lo)) hF
 have DD := fun (hp : phsB d = true) (v : Bool) (hv : v = true ↔ DomsP d) (W : World) (hW : Below w.heap.size w W) => domsS lo d p0 c0 p2 c2 l.length v W hs (HK2.out.keep (agree_of_below hW lo)) hF hp hv
 rcases HK2.out.2 with hn | ⟨b, off, hpe, hlo, hb, hcell⟩
 ·simp [hn] at hb1
 subst hpe
 obtain ⟨⟨v0, q0, h0, _⟩, _⟩ := hcell 0 (by omega)
 simp only [Nat.zero_mul, Nat.add_zero] at h0
 have hpl := pred_len (S := succN d.blocks) (n := d.blocks.length) (x := 0)
 have hph := (hs.2.2 _ (getD_mem block0 d.blocks 0 (by omega))).1.1
 have EB : Hid (entB d = (decide ((d.blocks.getD 0 block0).phis.length = 0) && decide ((predN (succN d.blocks) d.blocks.length 0).length = 0))) := (by show _ = _; rfl)
 generalize predN (succN d.blocks) d.blocks.length 0 = P at hpl DP EB
 generalize d.blocks.getD 0 block0 = x at h0 hph EB
 have HH0 : Hid (w.cell? ⟨b, off, none⟩ = some (.slice v0 x.phis.length q0)) := h0
 clear hcell h0 hs hsl hF kM k0 k2
 have hB0' : Hid (Below w.heap.size w ((w.alloc (.cells #[.slice pm l.length cm] 26)).alloc (.cells #[.slice p0 d.params.length c0, .int .i64 d.ret, .slice (some ⟨b, off, none⟩) d.blocks.length c2] 36))) := hB0
 have HMC : Hid (((w.alloc (.cells #[.slice pm l.length cm] 26)).alloc (.cells #[.slice p0 d.params.length c0, .int .i64 d.ret, .slice (some ⟨b, off, none⟩) d.blocks.length c2] 36)).heap[w.heap.size]? = some (.cells #[.slice pm l.length cm] 26 (0, 0))) := (Below.heap_alloc _ _ _ (by simp)).trans (heap_alloc_last _ _)
 have HFC : Hid (((w.alloc (.cells #[.slice pm l.length cm] 26)).alloc (.cells #[.slice p0 d.params.length c0, .int .i64 d.ret, .slice (some ⟨b, off, none⟩) d.blocks.length c2] 36)).heap[w.heap.size + 1]? = some (.cells #[.slice p0 d.params.length c0, .int .i64 d.ret, .slice (some ⟨b, off, none⟩) d.blocks.length c2] 36 (0, 0))) := heap_two _ _ _
 clear hB0
 rcases hc with ⟨h1, rfl⟩ | ⟨h1, h2, rfl⟩ | ⟨h1, h2, h3, rfl⟩ | ⟨h1, h2, h3, h4, rfl⟩ | ⟨h1, h2, h3, h4, h5, rfl⟩ | ⟨h1, h2, h3, h4, h5, rfl⟩
 ·rw [EB.out] at h1
  by_cases hp : P.length = 0
  ·have hx : ¬ x.phis.length = 0 := by intro e; simp [hp, e] at h1
   have hx2 : (0 : Int) < x.phis.length := by omega
   clear h1 DPh DT DC DD
   rw [hp] at DP
   go_enter Tryz.func31, Tryz.ntmps31
   go_wp2_with (first | (go_at_call 56; refine (DP _ hB0'.out).mono ?_; rintro e w1 ⟨pv, rfl, hpo, hb1'⟩; obtain ⟨pu, pc, rfl⟩ := own_slice hpo; have HX1 : Hid (Below (w.heap.size + 1 + 1) _ w1) := hb1'.mono (by simp); have HB1 : Hid (Below w.heap.size w w1) := hB0'.out.trans (HX1.out.mono (by omega)); have hf1 := (HX1.out.block (w.heap.size + 1) (by omega)).trans HFC.out; have a10 := (cell_of_heap (o := 0) hf1).trans rfl; have a11 := (cell_of_heap (o := 1) hf1).trans rfl; have a12 := (cell_of_heap (o := 2) hf1).trans rfl; have m10 := (cell_of_heap (o := 0) ((HX1.out.block w.heap.size (by omega)).trans HMC.out)).trans rfl; clear hf1; have z1 := (bcell HB1.out _ _ hb).trans HH0.out; clear hpo hb1'))
   go_ret
   exact ⟨rfl, HB1.out⟩
  ·have hp2 : (0 : Int) < P.length := by omega
   clear h1 DPh DT DC DD
   go_enter Tryz.func31, Tryz.ntmps31
   go_wp2_with (first | (go_at_call 56; refine (DP _ hB0'.out).mono ?_; rintro e w1 ⟨pv, rfl, hpo, hb1'⟩; obtain ⟨pu, pc, rfl⟩ := own_slice hpo; have HX1 : Hid (Below (w.heap.size + 1 + 1) _ w1) := hb1'.mono (by simp); have HB1 : Hid (Below w.heap.size w w1) := hB0'.out.trans (HX1.out.mono (by omega)); have hf1 := (HX1.out.block (w.heap.size + 1) (by omega)).trans HFC.out; have a10 := (cell_of_heap (o := 0) hf1).trans rfl; have a11 := (cell_of_heap (o := 1) hf1).trans rfl; have a12 := (cell_of_heap (o := 2) hf1).trans rfl; have m10 := (cell_of_heap (o := 0) ((HX1.out.block w.heap.size (by omega)).trans HMC.out)).trans rfl; clear hf1; have z1 := (bcell HB1.out _ _ hb).trans HH0.out; clear hpo hb1'))
   go_ret
   exact ⟨rfl, HB1.out⟩
 all_goals
  rw [EB.out] at h1
  simp only [Bool.and_eq_true, decide_eq_true_eq] at h1
  have hp := h1.2
  have hx := h1.1
  rw [hp] at DP
  rw [hx] at HH0
  clear h1
  try (first | (have DDv := DD h2 false ⟨fun h => (by cases h), fun h => absurd h h5⟩; clear h5) | (have DDv := DD h2 true ⟨fun _ => h5, fun _ => rfl⟩; clear h5) | fail)
  rw [h2] at DPh
  try rw [h3] at DT
  try rw [h4] at DC
  clear DD
  try clear h4
  try clear h3
  clear h2
  go_enter Tryz.func31, Tryz.ntmps31
  go_wp2_with (first | (go_at_call 56; refine (DP _ hB0'.out).mono ?_; rintro e w1 ⟨pv, rfl, hpo, hb1'⟩; obtain ⟨pu, pc, rfl⟩ := own_slice hpo; have HX1 : Hid (Below (w.heap.size + 1 + 1) _ w1) := hb1'.mono (by simp); have HB1 : Hid (Below w.heap.size w w1) := hB0'.out.trans (HX1.out.mono (by omega)); have hf1 := (HX1.out.block (w.heap.size + 1) (by omega)).trans HFC.out; have a10 := (cell_of_heap (o := 0) hf1).trans rfl; have a11 := (cell_of_heap (o := 1) hf1).trans rfl; have a12 := (cell_of_heap (o := 2) hf1).trans rfl; have m10 := (cell_of_heap (o := 0) ((HX1.out.block w.heap.size (by omega)).trans HMC.out)).trans rfl; clear hf1; have z1 := (bcell HB1.out _ _ hb).trans HH0.out; clear hpo hb1') | (go_at_call 57; refine (DPh _ HB1.out).mono ?_; rintro e w2 ⟨rfl, hb2'⟩; have HX2 : Hid (Below (w.heap.size + 1 + 1) _ w2) := HX1.out.trans (hb2'.mono (by have := HX1.out.size; simp at this; omega)); have HB2 : Hid (Below w.heap.size w w2) := hB0'.out.trans (HX2.out.mono (by omega)); have hf2 := (HX2.out.block (w.heap.size + 1) (by omega)).trans HFC.out; have a20 := (cell_of_heap (o := 0) hf2).trans rfl; have a21 := (cell_of_heap (o := 1) hf2).trans rfl; have a22 := (cell_of_heap (o := 2) hf2).trans rfl; have m20 := (cell_of_heap (o := 0) ((HX2.out.block w.heap.size (by omega)).trans HMC.out)).trans rfl; clear hf2; clear hb2' a10 a11 a12 m10) | (go_at_call 58; refine (DT _ HB2.out).mono ?_; rintro e w3 ⟨rfl, hb3'⟩; have HX3 : Hid (Below (w.heap.size + 1 + 1) _ w3) := HX2.out.trans (hb3'.mono (by have := HX2.out.size; simp at this; omega)); have HB3 : Hid (Below w.heap.size w w3) := hB0'.out.trans (HX3.out.mono (by omega)); have hf3 := (HX3.out.block (w.heap.size + 1) (by omega)).trans HFC.out; have a30 := (cell_of_heap (o := 0) hf3).trans rfl; have a31 := (cell_of_heap (o := 1) hf3).trans rfl; have a32 := (cell_of_heap (o := 2) hf3).trans rfl; have m30 := (cell_of_heap (o := 0) ((HX3.out.block w.heap.size (by omega)).trans HMC.out)).trans rfl; clear hf3; clear hb3' a20 a21 a22 m20) | (go_at_call 59; refine (DC _ HB3.out).mono ?_; rintro e w4 ⟨rfl, hb4'⟩; have HX4 : Hid (Below (w.heap.size + 1 + 1) _ w4) := HX3.out.trans (hb4'.mono (by have := HX3.out.size; simp at this; omega)); have HB4 : Hid (Below w.heap.size w w4) := hB0'.out.trans (HX4.out.mono (by omega)); have hf4 := (HX4.out.block (w.heap.size + 1) (by omega)).trans HFC.out; have a40 := (cell_of_heap (o := 0) hf4).trans rfl; have a41 := (cell_of_heap (o := 1) hf4).trans rfl; have a42 := (cell_of_heap (o := 2) hf4).trans rfl; have m40 := (cell_of_heap (o := 0) ((HX4.out.block w.heap.size (by omega)).trans HMC.out)).trans rfl; clear hf4; clear hb4' a30 a31 a32 m30) | (go_at_call 60; refine (DDv _ HB4.out).mono ?_; rintro e w5 ⟨rfl, hb5'⟩; have HX5 : Hid (Below (w.heap.size + 1 + 1) _ w5) := HX4.out.trans (hb5'.mono (by have := HX4.out.size; simp at this; omega)); have HB5 : Hid (Below w.heap.size w w5) := hB0'.out.trans (HX5.out.mono (by omega)); have hf5 := (HX5.out.block (w.heap.size + 1) (by omega)).trans HFC.out; have a50 := (cell_of_heap (o := 0) hf5).trans rfl; have a51 := (cell_of_heap (o := 1) hf5).trans rfl; have a52 := (cell_of_heap (o := 2) hf5).trans rfl; have m50 := (cell_of_heap (o := 0) ((HX5.out.block w.heap.size (by omega)).trans HMC.out)).trans rfl; clear hf5; clear hb5' a40 a41 a42 m40))
  go_ret
  first | exact ⟨rfl, HB5.out⟩ | exact ⟨rfl, HB4.out⟩ | exact ⟨rfl, HB3.out⟩ | exact ⟨rfl, HB2.out⟩
end Go.Proofs.YtgojlnclpebdcaaGreatDoor
namespace Go.Proofs.YtgojlnclpebdcaaGreatDoor
open Go.RowKit
set_option linter.unusedVariables false
set_option maxHeartbeats 2000000 in
set_option maxRecDepth 100000 in
theorem funcShI_p (lo : Nat) (d : FuncD) (u0 : Option Addr) (c0 : Nat) (u2 : Option Addr) (c2 : Nat) (funcs : Int) (w : World) (hs : SmFunc d) (k0 : IntsAt w lo u0 d.params) (k2 : BlocksAt w lo u2 d.blocks) (hp : ¬ d.params.length ≤ 4) : Calls Tryz.prog 33 #[.agg #[.slice u0 d.params.length c0, .int .i64 d.ret, .slice u2 d.blocks.length c2], .int .i64 funcs] w fun e w' => e = .returned (.bool (funcB funcs d)) ∧ Below w.heap.size w w' := by
 have HR : Hid (false = funcB funcs d) := by show _ = _; simp [funcB, hp]
 have i1 : (4 : Int) < d.params.length := by omega
 go_enter Tryz.func33, Tryz.ntmps33
 go_wp2_with fail
 go_ret
 exact ⟨ret_bool HR.out, (Below.refl _ _).alloc (Nat.le_refl _) _⟩
set_option maxHeartbeats 2000000 in
set_option maxRecDepth 100000 in
theorem funcShI_a (lo : Nat) (d : FuncD) (u0 : Option Addr) (c0 : Nat) (u2 : Option Addr) (c2 : Nat) (funcs : Int) (w : World) (hs : SmFunc d) (k0 : IntsAt w lo u0 d.params) (k2 : BlocksAt w lo u2 d.blocks) (hp : d.params.length ≤ 4) (ha : d.params.all widthB = false) : Calls Tryz.prog 33 #[.agg #[.slice u0 d.params.length c0, .int .i64 d.ret, .slice u2 d.blocks.length c2], .int .i64 funcs] w fun e w' => e = .returned (.bool (funcB funcs d)) ∧ Below w.heap.size w w' := by
 have HR : Hid (false = funcB funcs d) := by show _ = _; simp [funcB, ha]
 have i1 : ¬ (4 : Int) < d.params.length := by omega
 have K1 := (k0.keep (agree_alloc w (.cells #[.slice u0 d.params.length c0, .int .i64 d.ret, .slice u2 d.blocks.length c2] 36) _))
 have A := fun w k => allWidthsI lo u0 c0 d.params w k
 simp only [show (fun n => widthB n) = widthB from rfl] at A
 rw [ha] at A
 go_enter Tryz.func33, Tryz.ntmps33
 go_wp2_with (first | (go_at_call 61; refine (A _ K1).mono ?_; rintro e w' ⟨rfl, rfl⟩))
 go_ret
 exact ⟨ret_bool HR.out, (Below.refl _ _).alloc (Nat.le_refl _) _⟩
set_option maxHeartbeats 2000000 in
set_option maxRecDepth 100000 in
theorem funcShI_r (lo : Nat) (d : FuncD) (u0 : Option Addr) (c0 : Nat) (u2 : Option Addr) (c2 : Nat) (funcs : Int) (w : World) (hs : SmFunc d) (k0 : IntsAt w lo u0 d.params) (k2 : BlocksAt w lo u2 d.blocks) (hp : d.params.length ≤ 4) (ha : d.params.all widthB = true) (hr : widthB d.ret = false) : Calls Tryz.prog 33 #[.agg #[.slice u0 d.params.length c0, .int .i64 d.ret, .slice u2 d.blocks.length c2], .int .i64 funcs] w fun e w' => e = .returned (.bool (funcB funcs d)) ∧ Below w.heap.size w w' := by
 have HR : Hid (false = funcB funcs d) := by show _ = _; simp [funcB, hr]
 have i1 : ¬ (4 : Int) < d.params.length := by omega
 have K1 := (k0.keep (agree_alloc w (.cells #[.slice u0 d.params.length c0, .int .i64 d.ret, .slice u2 d.blocks.length c2] 36) _))
 have A := fun w k => allWidthsI lo u0 c0 d.params w k
 simp only [show (fun n => widthB n) = widthB from rfl] at A
 rw [ha] at A
 go_enter Tryz.func33, Tryz.ntmps33
 go_wp2_with (first | (go_at_call 61; refine (A _ K1).mono ?_; rintro e w' ⟨rfl, rfl⟩) | (go_at_call 62; refine (widthI _ _).mono ?_; rintro e w' ⟨rfl, rfl⟩))
 go_ret
 exact ⟨ret_bool HR.out, (Below.refl _ _).alloc (Nat.le_refl _) _⟩
set_option maxHeartbeats 2000000 in
set_option maxRecDepth 100000 in
theorem funcShI_b (lo : Nat) (d : FuncD) (u0 : Option Addr) (c0 : Nat) (u2 : Option Addr) (c2 : Nat) (funcs : Int) (w : World) (hs : SmFunc d) (k0 : IntsAt w lo u0 d.params) (k2 : BlocksAt w lo u2 d.blocks) (hp : d.params.length ≤ 4) (ha : d.params.all widthB = true) (hr : widthB d.ret = true) (hb : ¬ 1 ≤ d.blocks.length) : Calls Tryz.prog 33 #[.agg #[.slice u0 d.params.length c0, .int .i64 d.ret, .slice u2 d.blocks.length c2], .int .i64 funcs] w fun e w' => e = .returned (.bool (funcB funcs d)) ∧ Below w.heap.size w w' := by
 have HR : Hid (false = funcB funcs d) := by show _ = _; simp [funcB, hb]
 have i1 : ¬ (4 : Int) < d.params.length := by omega
 have K1 := (k0.keep (agree_alloc w (.cells #[.slice u0 d.params.length c0, .int .i64 d.ret, .slice u2 d.blocks.length c2] 36) _))
 have A := fun w k => allWidthsI lo u0 c0 d.params w k
 simp only [show (fun n => widthB n) = widthB from rfl] at A
 rw [ha] at A
 have i2 : (d.blocks.length : Int) < 1 := by omega
 go_enter Tryz.func33, Tryz.ntmps33
 go_wp2_with (first | (go_at_call 61; refine (A _ K1).mono ?_; rintro e w' ⟨rfl, rfl⟩) | (go_at_call 62; refine (widthI _ _).mono ?_; rintro e w' ⟨rfl, rfl⟩))
 go_ret
 exact ⟨ret_bool HR.out, (Below.refl _ _).alloc (Nat.le_refl _) _⟩
set_option maxHeartbeats 2000000 in
set_option maxRecDepth 100000 in
theorem funcShI_c (lo : Nat) (d : FuncD) (u0 : Option Addr) (c0 : Nat) (u2 : Option Addr) (c2 : Nat) (funcs : Int) (w : World) (hs : SmFunc d) (k0 : IntsAt w lo u0 d.params) (k2 : BlocksAt w lo u2 d.blocks) (hp : d.params.length ≤ 4) (ha : d.params.all widthB = true) (hr : widthB d.ret = true) (hb : 1 ≤ d.blocks.length) (hc : ¬ d.blocks.length ≤ 10) : Calls Tryz.prog 33 #[.agg #[.slice u0 d.params.length c0, .int .i64 d.ret, .slice u2 d.blocks.length c2], .int .i64 funcs] w fun e w' => e = .returned (.bool (funcB funcs d)) ∧ Below w.heap.size w w' := by
 have HR : Hid (false = funcB funcs d) := by show _ = _; simp [funcB, hc]
 have i1 : ¬ (4 : Int) < d.params.length := by omega
 have K1 := (k0.keep (agree_alloc w (.cells #[.slice u0 d.params.length c0, .int .i64 d.ret, .slice u2 d.blocks.length c2] 36) _))
 have A := fun w k => allWidthsI lo u0 c0 d.params w k
 simp only [show (fun n => widthB n) = widthB from rfl] at A
 rw [ha] at A
 have i2 : ¬ (d.blocks.length : Int) < 1 := by omega
 have i3 : (10 : Int) < d.blocks.length := by have := hs.2.1; omega
 go_enter Tryz.func33, Tryz.ntmps33
 go_wp2_with (first | (go_at_call 61; refine (A _ K1).mono ?_; rintro e w' ⟨rfl, rfl⟩) | (go_at_call 62; refine (widthI _ _).mono ?_; rintro e w' ⟨rfl, rfl⟩))
 go_ret
 exact ⟨ret_bool HR.out, (Below.refl _ _).alloc (Nat.le_refl _) _⟩
set_option maxHeartbeats 2000000 in
set_option maxRecDepth 100000 in
theorem funcShI_n (lo : Nat) (d : FuncD) (u0 : Option Addr) (c0 : Nat) (u2 : Option Addr) (c2 : Nat) (funcs : Int) (w : World) (hs : SmFunc d) (k0 : IntsAt w lo u0 d.params) (k2 : BlocksAt w lo u2 d.blocks) (hp : d.params.length ≤ 4) (ha : d.params.all widthB = true) (hr : widthB d.ret = true) (hb : 1 ≤ d.blocks.length) (hc : d.blocks.length ≤ 10) (hn : ¬ cntF d ≤ 60) : Calls Tryz.prog 33 #[.agg #[.slice u0 d.params.length c0, .int .i64 d.ret, .slice u2 d.blocks.length c2], .int .i64 funcs] w fun e w' => e = .returned (.bool (funcB funcs d)) ∧ Below w.heap.size w w' := by
 have HR : Hid (false = funcB funcs d) := by show _ = _; simp [funcB, hn]
 have F0 := FBox.start (d := d) (u0 := u0) (u2 := u2) (c0 := c0) (c2 := c2) (w := w) (T := 36)
 have i1 : ¬ (4 : Int) < d.params.length := by omega
 have K1 := (k0.keep (agree_alloc w (.cells #[.slice u0 d.params.length c0, .int .i64 d.ret, .slice u2 d.blocks.length c2] 36) _))
 have A := fun w k => allWidthsI lo u0 c0 d.params w k
 simp only [show (fun n => widthB n) = widthB from rfl] at A
 rw [ha] at A
 have i2 : ¬ (d.blocks.length : Int) < 1 := by omega
 have i3 : ¬ (10 : Int) < d.blocks.length := by omega
 have i4 : (60 : Int) < cntF d := by omega
 go_enter Tryz.func33, Tryz.ntmps33
 go_wp2_with (first | (go_at_call 61; refine (A _ K1).mono ?_; rintro e w' ⟨rfl, rfl⟩) | (go_at_call 62; refine (widthI _ _).mono ?_; rintro e w' ⟨rfl, rfl⟩))
 refine (countI_any lo d u0 c0 u2 c2 _ hs (k2.keep (agree_of_below F0.below lo))).mono ?_
 rintro e w1 ⟨rfl, hb1'⟩
 have F1 := F0.keep hb1'
 go_wp2_with fail
 go_ret
 exact ⟨ret_bool HR.out, F1.below⟩
theorem funcShI (lo : Nat) (d : FuncD) (u0 : Option Addr) (c0 : Nat) (u2 : Option Addr) (c2 : Nat) (funcs : Int) (w : World) (hs : SmFunc d) (k0 : IntsAt w lo u0 d.params) (k2 : BlocksAt w lo u2 d.blocks) : Calls Tryz.prog 33 #[.agg #[.slice u0 d.params.length c0, .int .i64 d.ret, .slice u2 d.blocks.length c2], .int .i64 funcs] w fun e w' => e = .returned (.bool (funcB funcs d)) ∧ Below w.heap.size w w' := by
 by_cases hp : d.params.length ≤ 4
 ·cases ha : d.params.all widthB with
  | false => exact funcShI_a lo d u0 c0 u2 c2 funcs w hs k0 k2 hp ha
  | true =>
   cases hr : widthB d.ret with
   | false => exact funcShI_r lo d u0 c0 u2 c2 funcs w hs k0 k2 hp ha hr
   | true =>
    by_cases hb : 1 ≤ d.blocks.length
    ·by_cases hc : d.blocks.length ≤ 10
     ·by_cases hn : cntF d ≤ 60
      ·exact funcShI_ok lo d u0 c0 u2 c2 funcs w hs k0 k2 hp ha hr hb hc hn
      ·exact funcShI_n lo d u0 c0 u2 c2 funcs w hs k0 k2 hp ha hr hb hc hn
     ·exact funcShI_c lo d u0 c0 u2 c2 funcs w hs k0 k2 hp ha hr hb hc
    ·exact funcShI_b lo d u0 c0 u2 c2 funcs w hs k0 k2 hp ha hr hb
 ·exact funcShI_p lo d u0 c0 u2 c2 funcs w hs k0 k2 hp
set_option maxHeartbeats 2000000 in
set_option maxRecDepth 100000 in
theorem modShI (lo : Nat) (l : List FuncD) (u0 : Option Addr) (c0 : Nat) (w : World) (hs : SmMod l) (k0 : FuncsAt w lo u0 l) :
  Calls Tryz.prog 12 #[.agg #[.slice u0 l.length c0]] w fun e w' => e = .returned (.bool (modB l)) ∧ Below w.heap.size w w' := by
 have hsl := hs.1
 have HS : Hid (∀ d ∈ l, SmFunc d) := hs.2
 by_cases h1 : 1 ≤ l.length
 ·by_cases h3 : l.length ≤ 3
  ·have HE : Hid (modB l = l.all (funcB l.length)) := by show _ = _; simp [modB, h1, h3]
   have i1 : ¬ (l.length : Int) < 1 := by omega
   have i2 : ¬ (3 : Int) < l.length := by omega
   clear hs
   go_enter Tryz.func12, Tryz.ntmps12
   go_wp2_with fail
   go_loopw [18] (fun i wr => ∃ j : Nat, j ≤ l.length ∧ i = .int .i64 j ∧ Hid (∀ k, k < j → funcB l.length (l.getD k func0) = true) ∧ Below (w.heap.size + 1) (w.alloc (.cells #[.slice u0 l.length c0] 26)) wr) (fun i _ => l.length - (intOf i).toNat)
   case atStart => exact ⟨0, by omega, rfl, fun k hk => by omega, Below.refl _ _⟩
   case round =>
    obtain ⟨j, hj, rfl, HD, hB⟩ := hrel
    obtain ⟨wp, hwp⟩ : ∃ wp, wp = wr := ⟨_, rfl⟩
    subst hwp
    have hW : Below w.heap.size w wp := below_box hB
    have y0 : wp.cell? ⟨w.heap.size, 0, none⟩ = some (.slice u0 l.length c0) := (cell_block (hB.block w.heap.size (by omega))).trans ((cell_of_heap (heap_alloc_last _ _)).trans rfl)
    have hzw : w.heap.size < wp.heap.size := by have := hB.size; simp at this; omega
    by_cases hjl : j < l.length
    ·rcases k0.2 with hn | ⟨bb, off, rfl, hlo, hbb, hcell⟩
     ·simp [hn] at hjl
     obtain ⟨⟨p0, q0, h0, m0⟩, h1', ⟨p2, q2, h2, m2⟩⟩ := hcell j hjl
     have hsm := HS.out _ (getD_mem func0 l j hjl)
     generalize hx : l.getD j func0 = x at h0 h1' h2 m0 m2 hsm
     have HX : Hid (l.getD j func0 = x) := hx
     have f0 : wp.cell? ⟨bb, off + j * 3, none⟩ = some (.slice p0 x.params.length q0) := (cell_block (hW.block bb hbb)).trans h0
     have f1 : wp.cell? ⟨bb, off + j * 3 + 1, none⟩ = some (.int .i64 x.ret) := (cell_block (hW.block bb hbb)).trans h1'
     have f2 : wp.cell? ⟨bb, off + j * 3 + 2, none⟩ = some (.slice p2 x.blocks.length q2) := (cell_block (hW.block bb hbb)).trans h2
     have M0 := (m0.keep (agree_of_below hW lo)).keep (agree_alloc wp (.cells #[.slice p0 x.params.length q0, .int .i64 x.ret, .slice p2 x.blocks.length q2] 36) _)
     have M2 := (m2.keep (agree_of_below hW lo)).keep (agree_alloc wp (.cells #[.slice p0 x.params.length q0, .int .i64 x.ret, .slice p2 x.blocks.length q2] 36) _)
     have t0 : (wp.alloc (.cells #[.slice p0 x.params.length q0, .int .i64 x.ret, .slice p2 x.blocks.length q2] 36)).cell? ⟨w.heap.size, 0, none⟩ = some (.slice (some ⟨bb, off, none⟩) l.length c0) := cell_new hzw y0
     have HBA : Hid (Below (w.heap.size + 1) (w.alloc (.cells #[.slice (some ⟨bb, off, none⟩) l.length c0] 26)) (wp.alloc (.cells #[.slice p0 x.params.length q0, .int .i64 x.ret, .slice p2 x.blocks.length q2] 36))) := hB.alloc (by have := hB.size; simp at this; omega) _
     have hz2 : w.heap.size + 1 ≤ (wp.alloc (.cells #[.slice p0 x.params.length q0, .int .i64 x.ret, .slice p2 x.blocks.length q2] 36)).heap.size := by simp; omega
     have B : ∀ B, funcB l.length x = B → Calls Tryz.prog 33 #[.agg #[.slice p0 x.params.length q0, .int .i64 x.ret, .slice p2 x.blocks.length q2], .int .i64 l.length] (wp.alloc (.cells #[.slice p0 x.params.length q0, .int .i64 x.ret, .slice p2 x.blocks.length q2] 36)) fun e w' => e = .returned (.bool B) ∧ Below (wp.alloc (.cells #[.slice p0 x.params.length q0, .int .i64 x.ret, .slice p2 x.blocks.length q2] 36)).heap.size (wp.alloc (.cells #[.slice p0 x.params.length q0, .int .i64 x.ret, .slice p2 x.blocks.length q2] 36)) w' := fun B h => by
      rw [← h]; exact funcShI lo x p0 q0 p2 q2 l.length _ hsm M0 M2
     have NO : Hid (funcB l.length x = false → false = modB l) := fun h => by
      rw [HE.out]; exact (all_no func0 l j hjl (by rw [HX.out, h]; decide)).symm
     have YES : Hid (funcB l.length x = true → ∀ k, k < j + 1 → funcB l.length (l.getD k func0) = true) := fun h k hk => by
      by_cases e : k = j
      ·subst e; rw [HX.out]; exact h
      ·exact HD.out k (by omega)
     clear hcell h0 h1' h2 m0 m2 hsm hx hB M0 M2 HD k0 hW
     cases hb : funcB l.length x with
     | false =>
      have HF : Hid (false = modB l) := NO.out hb
      have BB := B _ hb
      clear B
      go_wp2_with (go_at_call 33; refine BB.mono ?_; rintro e w3 ⟨rfl, hb3⟩)
      go_ret
      exact ⟨ret_bool HF.out, below_box (HBA.out.trans (hb3.mono hz2))⟩
     | true =>
      have HF : Hid (funcB l.length x = true) := hb
      have BB := B _ hb
      clear B
      go_wp2_with (go_at_call 33; refine BB.mono ?_; rintro e w3 ⟨rfl, hb3⟩)
      go_roundw
      case rel => exact ⟨j + 1, by omega, by go_num, YES.out HF.out, HBA.out.trans (hb3.mono hz2)⟩
      case measure => simp [intOf]; omega
    ·have HF : Hid (true = modB l) := by
      show _ = _
      rw [HE.out]; exact (all_yes func0 l (fun k hk => HD.out k (by omega))).symm
     go_wp2_with fail
     go_ret
     exact ⟨ret_bool HF.out, hW⟩
  ·have HR : Hid (false = modB l) := by show _ = _; simp [modB, h3]
   have i1 : ¬ (l.length : Int) < 1 := by omega
   have i2 : (3 : Int) < l.length := by omega
   clear hs
   go_enter Tryz.func12, Tryz.ntmps12
   go_wp2_with fail
   go_ret
   exact ⟨ret_bool HR.out, (Below.refl _ _).alloc (Nat.le_refl _) _⟩
 ·have HR : Hid (false = modB l) := by show _ = _; simp [modB, h1]
  have i1 : (l.length : Int) < 1 := by omega
  clear hs
  go_enter Tryz.func12, Tryz.ntmps12
  go_wp2_with fail
  go_ret
  exact ⟨ret_bool HR.out, (Below.refl _ _).alloc (Nat.le_refl _) _⟩
end Go.Proofs.YtgojlnclpebdcaaGreatDoor
