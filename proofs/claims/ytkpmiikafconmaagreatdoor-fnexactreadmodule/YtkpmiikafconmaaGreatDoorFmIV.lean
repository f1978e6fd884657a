import Derived.Test.YtkpmiikafconmaaGreatDoorFmHV
namespace Go.Proofs.YtkpmiikafconmaaGreatDoor
open Go.RowKit
set_option linter.unusedVariables false
set_option maxHeartbeats 2000000 in
set_option maxRecDepth 100000 in
theorem funcShI_p (lo : Nat) (d : FuncD) (u0 : Option Addr) (c0 : Nat) (u2 : Option Addr) (c2 : Nat) (funcs : Int) (w : World) (hs : SmFunc d) (k0 : IntsAt w lo u0 d.params) (k2 : BlocksAt w lo u2 d.blocks) (hp : ¬ d.params.length ≤ 4) : Calls Tryz.prog 38 #[.agg #[.slice u0 d.params.length c0, .int .i64 d.ret, .slice u2 d.blocks.length c2], .int .i64 funcs] w fun e w' => e = .returned (.bool (funcB funcs d)) ∧ Below w.heap.size w w' := by
 have HR : Hid (false = funcB funcs d) := by show _ = _; simp [funcB, hp]
 have i1 : (4 : Int) < d.params.length := by omega
 go_enter Tryz.func38, Tryz.ntmps38
 go_wp2_with fail
 go_ret
 exact ⟨ret_bool HR.out, (Below.refl _ _).alloc (Nat.le_refl _) _⟩
set_option maxHeartbeats 2000000 in
set_option maxRecDepth 100000 in
theorem funcShI_a (lo : Nat) (d : FuncD) (u0 : Option Addr) (c0 : Nat) (u2 : Option Addr) (c2 : Nat) (funcs : Int) (w : World) (hs : SmFunc d) (k0 : IntsAt w lo u0 d.params) (k2 : BlocksAt w lo u2 d.blocks) (hp : d.params.length ≤ 4) (ha : d.params.all widthB = false) : Calls Tryz.prog 38 #[.agg #[.slice u0 d.params.length c0, .int .i64 d.ret, .slice u2 d.blocks.length c2], .int .i64 funcs] w fun e w' => e = .returned (.bool (funcB funcs d)) ∧ Below w.heap.size w w' := by
 have HR : Hid (false = funcB funcs d) := by show _ = _; simp [funcB, ha]
 have i1 : ¬ (4 : Int) < d.params.length := by omega
 have K1 := (k0.keep (agree_alloc w (.cells #[.slice u0 d.params.length c0, .int .i64 d.ret, .slice u2 d.blocks.length c2] 55) _))
 have A := fun w k => allWidthsI lo u0 c0 d.params w k
 simp only [show (fun n => widthB n) = widthB from rfl] at A
 rw [ha] at A
 go_enter Tryz.func38, Tryz.ntmps38
 go_wp2_with (first | (go_at_call 70; refine (A _ K1).mono ?_; rintro e w' ⟨rfl, rfl⟩))
 go_ret
 exact ⟨ret_bool HR.out, (Below.refl _ _).alloc (Nat.le_refl _) _⟩
set_option maxHeartbeats 2000000 in
set_option maxRecDepth 100000 in
theorem funcShI_r (lo : Nat) (d : FuncD) (u0 : Option Addr) (c0 : Nat) (u2 : Option Addr) (c2 : Nat) (funcs : Int) (w : World) (hs : SmFunc d) (k0 : IntsAt w lo u0 d.params) (k2 : BlocksAt w lo u2 d.blocks) (hp : d.params.length ≤ 4) (ha : d.params.all widthB = true) (hr : widthB d.ret = false) : Calls Tryz.prog 38 #[.agg #[.slice u0 d.params.length c0, .int .i64 d.ret, .slice u2 d.blocks.length c2], .int .i64 funcs] w fun e w' => e = .returned (.bool (funcB funcs d)) ∧ Below w.heap.size w w' := by
 have HR : Hid (false = funcB funcs d) := by show _ = _; simp [funcB, hr]
 have i1 : ¬ (4 : Int) < d.params.length := by omega
 have K1 := (k0.keep (agree_alloc w (.cells #[.slice u0 d.params.length c0, .int .i64 d.ret, .slice u2 d.blocks.length c2] 55) _))
 have A := fun w k => allWidthsI lo u0 c0 d.params w k
 simp only [show (fun n => widthB n) = widthB from rfl] at A
 rw [ha] at A
 go_enter Tryz.func38, Tryz.ntmps38
 go_wp2_with (first | (go_at_call 70; refine (A _ K1).mono ?_; rintro e w' ⟨rfl, rfl⟩) | (go_at_call 71; refine (widthI _ _).mono ?_; rintro e w' ⟨rfl, rfl⟩))
 go_ret
 exact ⟨ret_bool HR.out, (Below.refl _ _).alloc (Nat.le_refl _) _⟩
set_option maxHeartbeats 2000000 in
set_option maxRecDepth 100000 in
theorem funcShI_b (lo : Nat) (d : FuncD) (u0 : Option Addr) (c0 : Nat) (u2 : Option Addr) (c2 : Nat) (funcs : Int) (w : World) (hs : SmFunc d) (k0 : IntsAt w lo u0 d.params) (k2 : BlocksAt w lo u2 d.blocks) (hp : d.params.length ≤ 4) (ha : d.params.all widthB = true) (hr : widthB d.ret = true) (hb : ¬ 1 ≤ d.blocks.length) : Calls Tryz.prog 38 #[.agg #[.slice u0 d.params.length c0, .int .i64 d.ret, .slice u2 d.blocks.length c2], .int .i64 funcs] w fun e w' => e = .returned (.bool (funcB funcs d)) ∧ Below w.heap.size w w' := by
 have HR : Hid (false = funcB funcs d) := by show _ = _; simp [funcB, hb]
 have i1 : ¬ (4 : Int) < d.params.length := by omega
 have K1 := (k0.keep (agree_alloc w (.cells #[.slice u0 d.params.length c0, .int .i64 d.ret, .slice u2 d.blocks.length c2] 55) _))
 have A := fun w k => allWidthsI lo u0 c0 d.params w k
 simp only [show (fun n => widthB n) = widthB from rfl] at A
 rw [ha] at A
 have i2 : (d.blocks.length : Int) < 1 := by omega
 go_enter Tryz.func38, Tryz.ntmps38
 go_wp2_with (first | (go_at_call 70; refine (A _ K1).mono ?_; rintro e w' ⟨rfl, rfl⟩) | (go_at_call 71; refine (widthI _ _).mono ?_; rintro e w' ⟨rfl, rfl⟩))
 go_ret
 exact ⟨ret_bool HR.out, (Below.refl _ _).alloc (Nat.le_refl _) _⟩
set_option maxHeartbeats 2000000 in
set_option maxRecDepth 100000 in
theorem funcShI_c (lo : Nat) (d : FuncD) (u0 : Option Addr) (c0 : Nat) (u2 : Option Addr) (c2 : Nat) (funcs : Int) (w : World) (hs : SmFunc d) (k0 : IntsAt w lo u0 d.params) (k2 : BlocksAt w lo u2 d.blocks) (hp : d.params.length ≤ 4) (ha : d.params.all widthB = true) (hr : widthB d.ret = true) (hb : 1 ≤ d.blocks.length) (hc : ¬ d.blocks.length ≤ 10) : Calls Tryz.prog 38 #[.agg #[.slice u0 d.params.length c0, .int .i64 d.ret, .slice u2 d.blocks.length c2], .int .i64 funcs] w fun e w' => e = .returned (.bool (funcB funcs d)) ∧ Below w.heap.size w w' := by
 have HR : Hid (false = funcB funcs d) := by show _ = _; simp [funcB, hc]
 have i1 : ¬ (4 : Int) < d.params.length := by omega
 have K1 := (k0.keep (agree_alloc w (.cells #[.slice u0 d.params.length c0, .int .i64 d.ret, .slice u2 d.blocks.length c2] 55) _))
 have A := fun w k => allWidthsI lo u0 c0 d.params w k
 simp only [show (fun n => widthB n) = widthB from rfl] at A
 rw [ha] at A
 have i2 : ¬ (d.blocks.length : Int) < 1 := by omega
 have i3 : (10 : Int) < d.blocks.length := by have := hs.2.1; omega
 go_enter Tryz.func38, Tryz.ntmps38
 go_wp2_with (first | (go_at_call 70; refine (A _ K1).mono ?_; rintro e w' ⟨rfl, rfl⟩) | (go_at_call 71; refine (widthI _ _).mono ?_; rintro e w' ⟨rfl, rfl⟩))
 go_ret
 exact ⟨ret_bool HR.out, (Below.refl _ _).alloc (Nat.le_refl _) _⟩
set_option maxHeartbeats 2000000 in
set_option maxRecDepth 100000 in
theorem funcShI_n (lo : Nat) (d : FuncD) (u0 : Option Addr) (c0 : Nat) (u2 : Option Addr) (c2 : Nat) (funcs : Int) (w : World) (hs : SmFunc d) (k0 : IntsAt w lo u0 d.params) (k2 : BlocksAt w lo u2 d.blocks) (hp : d.params.length ≤ 4) (ha : d.params.all widthB = true) (hr : widthB d.ret = true) (hb : 1 ≤ d.blocks.length) (hc : d.blocks.length ≤ 10) (hn : ¬ cntF d ≤ 60) : Calls Tryz.prog 38 #[.agg #[.slice u0 d.params.length c0, .int .i64 d.ret, .slice u2 d.blocks.length c2], .int .i64 funcs] w fun e w' => e = .returned (.bool (funcB funcs d)) ∧ Below w.heap.size w w' := by
 have HR : Hid (false = funcB funcs d) := by show _ = _; simp [funcB, hn]
 have F0 := FBox.start (d := d) (u0 := u0) (u2 := u2) (c0 := c0) (c2 := c2) (w := w) (T := 55)
 have i1 : ¬ (4 : Int) < d.params.length := by omega
 have K1 := (k0.keep (agree_alloc w (.cells #[.slice u0 d.params.length c0, .int .i64 d.ret, .slice u2 d.blocks.length c2] 55) _))
 have A := fun w k => allWidthsI lo u0 c0 d.params w k
 simp only [show (fun n => widthB n) = widthB from rfl] at A
 rw [ha] at A
 have i2 : ¬ (d.blocks.length : Int) < 1 := by omega
 have i3 : ¬ (10 : Int) < d.blocks.length := by omega
 have i4 : (60 : Int) < cntF d := by omega
 go_enter Tryz.func38, Tryz.ntmps38
 go_wp2_with (first | (go_at_call 70; refine (A _ K1).mono ?_; rintro e w' ⟨rfl, rfl⟩) | (go_at_call 71; refine (widthI _ _).mono ?_; rintro e w' ⟨rfl, rfl⟩))
 refine (countI_any lo d u0 c0 u2 c2 _ hs (k2.keep (agree_of_below F0.below lo))).mono ?_
 rintro e w1 ⟨rfl, hb1'⟩
 have F1 := F0.keep hb1'
 go_wp2_with fail
 go_ret
 exact ⟨ret_bool HR.out, F1.below⟩
theorem funcShI (lo : Nat) (d : FuncD) (u0 : Option Addr) (c0 : Nat) (u2 : Option Addr) (c2 : Nat) (funcs : Int) (w : World) (hs : SmFunc d) (k0 : IntsAt w lo u0 d.params) (k2 : BlocksAt w lo u2 d.blocks) : Calls Tryz.prog 38 #[.agg #[.slice u0 d.params.length c0, .int .i64 d.ret, .slice u2 d.blocks.length c2], .int .i64 funcs] w fun e w' => e = .returned (.bool (funcB funcs d)) ∧ Below w.heap.size w w' := by
 by_cases hp : d.params.length ≤ 4
 ·cases ha : d.params.all widthB with
  | false => exact funcShI_a lo d u0 c0 u2 c2 funcs w hs k0 k2 hp ha
  | true =>
   cases hr : widthB d.ret with
   | false => exact funcShI_r lo d u0 c0 u2 c2 funcs w hs k0 k2 hp ha hr
   | true =>
    by_cases hb : 1 ≤ d.blocks.length
    ·by_cases hc : d.blocks.length ≤ 10
     ·by_cases hn : cntF d ≤ 60
      ·exact funcShI_ok lo d u0 c0 u2 c2 funcs w hs k0 k2 hp ha hr hb hc hn
      ·exact funcShI_n lo d u0 c0 u2 c2 funcs w hs k0 k2 hp ha hr hb hc hn
     ·exact funcShI_c lo d u0 c0 u2 c2 funcs w hs k0 k2 hp ha hr hb hc
    ·exact funcShI_b lo d u0 c0 u2 c2 funcs w hs k0 k2 hp ha hr hb
 ·exact funcShI_p lo d u0 c0 u2 c2 funcs w hs k0 k2 hp
set_option maxHeartbeats 2000000 in
set_option maxRecDepth 100000 in
theorem modShI (lo : Nat) (l : List FuncD) (u0 : Option Addr) (c0 : Nat) (w : World) (hs : SmMod l) (k0 : FuncsAt w lo u0 l) :
  Calls Tryz.prog 17 #[.agg #[.slice u0 l.length c0]] w fun e w' => e = .returned (.bool (modB l)) ∧ Below w.heap.size w w' := by
 have hsl := hs.1
 have HS : Hid (∀ d ∈ l, SmFunc d) := hs.2
 by_cases h1 : 1 ≤ l.length
 ·by_cases h3 : l.length ≤ 3
  ·have HE : Hid (modB l = l.all (funcB l.length)) := by show _ = _; simp [modB, h1, h3]
   have i1 : ¬ (l.length : Int) < 1 := by omega
   have i2 : ¬ (3 : Int) < l.length := by omega
   clear hs
   go_enter Tryz.func17, Tryz.ntmps17
   go_wp2_with fail
   go_loopw [18] (fun i wr => ∃ j : Nat, j ≤ l.length ∧ i = .int .i64 j ∧ Hid (∀ k, k < j → funcB l.length (l.getD k func0) = true) ∧ Below (w.heap.size + 1) (w.alloc (.cells #[.slice u0 l.length c0] 26)) wr) (fun i _ => l.length - (intOf i).toNat)
   case atStart => exact ⟨0, by omega, rfl, fun k hk => by omega, Below.refl _ _⟩
   case round =>
    obtain ⟨j, hj, rfl, HD, hB⟩ := hrel
    obtain ⟨wp, hwp⟩ : ∃ wp, wp = wr := ⟨_, rfl⟩
    subst hwp
    have hW : Below w.heap.size w wp := below_box hB
    have y0 : wp.cell? ⟨w.heap.size, 0, none⟩ = some (.slice u0 l.length c0) := (cell_block (hB.block w.heap.size (by omega))).trans ((cell_of_heap (heap_alloc_last _ _)).trans rfl)
    have hzw : w.heap.size < wp.heap.size := by have := hB.size; simp at this; omega
    by_cases hjl : j < l.length
    ·rcases k0.2 with hn | ⟨bb, off, rfl, hlo, hbb, hcell⟩
     ·simp [hn] at hjl
     obtain ⟨⟨p0, q0, h0, m0⟩, h1', ⟨p2, q2, h2, m2⟩⟩ := hcell j hjl
     have hsm := HS.out _ (getD_mem func0 l j hjl)
     generalize hx : l.getD j func0 = x at h0 h1' h2 m0 m2 hsm
     have HX : Hid (l.getD j func0 = x) := hx
     have f0 : wp.cell? ⟨bb, off + j * 3, none⟩ = some (.slice p0 x.params.length q0) := (cell_block (hW.block bb hbb)).trans h0
     have f1 : wp.cell? ⟨bb, off + j * 3 + 1, none⟩ = some (.int .i64 x.ret) := (cell_block (hW.block bb hbb)).trans h1'
     have f2 : wp.cell? ⟨bb, off + j * 3 + 2, none⟩ = some (.slice p2 x.blocks.length q2) := (cell_block (hW.block bb hbb)).trans h2
     have M0 := (m0.keep (agree_of_below hW lo)).keep (agree_alloc wp (.cells #[.slice p0 x.params.length q0, .int .i64 x.ret, .slice p2 x.blocks.length q2] 55) _)
     have M2 := (m2.keep (agree_of_below hW lo)).keep (agree_alloc wp (.cells #[.slice p0 x.params.length q0, .int .i64 x.ret, .slice p2 x.blocks.length q2] 55) _)
     have t0 : (wp.alloc (.cells #[.slice p0 x.params.length q0, .int .i64 x.ret, .slice p2 x.blocks.length q2] 55)).cell? ⟨w.heap.size, 0, none⟩ = some (.slice (some ⟨bb, off, none⟩) l.length c0) := cell_new hzw y0
     have HBA : Hid (Below (w.heap.size + 1) (w.alloc (.cells #[.slice (some ⟨bb, off, none⟩) l.length c0] 26)) (wp.alloc (.cells #[.slice p0 x.params.length q0, .int .i64 x.ret, .slice p2 x.blocks.length q2] 55))) := hB.alloc (by have := hB.size; simp at this; omega) _
     have hz2 : w.heap.size + 1 ≤ (wp.alloc (.cells #[.slice p0 x.params.length q0, .int .i64 x.ret, .slice p2 x.blocks.length q2] 55)).heap.size := by simp; omega
     have B : ∀ B, funcB l.length x = B → Calls Tryz.prog 38 #[.agg #[.slice p0 x.params.length q0, .int .i64 x.ret, .slice p2 x.blocks.length q2], .int .i64 l.length] (wp.alloc (.cells #[.slice p0 x.params.length q0, .int .i64 x.ret, .slice p2 x.blocks.length q2] 55)) fun e w' => e = .returned (.bool B) ∧ Below (wp.alloc (.cells #[.slice p0 x.params.length q0, .int .i64 x.ret, .slice p2 x.blocks.length q2] 55)).heap.size (wp.alloc (.cells #[.slice p0 x.params.length q0, .int .i64 x.ret, .slice p2 x.blocks.length q2] 55)) w' := fun B h => by
      rw [← h]; exact funcShI lo x p0 q0 p2 q2 l.length _ hsm M0 M2
     have NO : Hid (funcB l.length x = false → false = modB l) := fun h => by
      rw [HE.out]; exact (all_no func0 l j hjl (by rw [HX.out, h]; decide)).symm
     have YES : Hid (funcB l.length x = true → ∀ k, k < j + 1 → funcB l.length (l.getD k func0) = true) := fun h k hk => by
      by_cases e : k = j
      ·subst e; rw [HX.out]; exact h
      ·exact HD.out k (by omega)
     clear hcell h0 h1' h2 m0 m2 hsm hx hB M0 M2 HD k0 hW
     cases hb : funcB l.length x with
     | false =>
      have HF : Hid (false = modB l) := NO.out hb
      have BB := B _ hb
      clear B
      go_wp2_with (go_at_call 38; refine BB.mono ?_; rintro e w3 ⟨rfl, hb3⟩)
      go_ret
      exact ⟨ret_bool HF.out, below_box (HBA.out.trans (hb3.mono hz2))⟩
     | true =>
      have HF : Hid (funcB l.length x = true) := hb
      have BB := B _ hb
      clear B
      go_wp2_with (go_at_call 38; refine BB.mono ?_; rintro e w3 ⟨rfl, hb3⟩)
      go_roundw
      case rel => exact ⟨j + 1, by omega, by go_num, YES.out HF.out, HBA.out.trans (hb3.mono hz2)⟩
      case measure => simp [intOf]; omega
    ·have HF : Hid (true = modB l) := by
      show _ = _
      rw [HE.out]; exact (all_yes func0 l (fun k hk => HD.out k (by omega))).symm
     go_wp2_with fail
     go_ret
     exact ⟨ret_bool HF.out, hW⟩
  ·have HR : Hid (false = modB l) := by show _ = _; simp [modB, h3]
   have i1 : ¬ (l.length : Int) < 1 := by omega
   have i2 : (3 : Int) < l.length := by omega
   clear hs
   go_enter Tryz.func17, Tryz.ntmps17
   go_wp2_with fail
   go_ret
   exact ⟨ret_bool HR.out, (Below.refl _ _).alloc (Nat.le_refl _) _⟩
 ·have HR : Hid (false = modB l) := by show _ = _; simp [modB, h1]
  have i1 : (l.length : Int) < 1 := by omega
  clear hs
  go_enter Tryz.func17, Tryz.ntmps17
  go_wp2_with fail
  go_ret
  exact ⟨ret_bool HR.out, (Below.refl _ _).alloc (Nat.le_refl _) _⟩
end Go.Proofs.YtkpmiikafconmaaGreatDoor
